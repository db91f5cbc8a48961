import Derived.Test.YtlfacjpehhcdiaaOn2
import Derived.ChangeKeysEq
import Derived.Test.YtlfacjpehhcdiaaOn6
namespace Go.Proofs.Ytlfacjpehhcdiaa
open Go.RowKit
set_option maxRecDepth 100000
set_option linter.unusedVariables false
set_option linter.unusedSimpArgs false

section
/-- a gate -/
structure Gt where
  cr : Int
  nx : Int
  ha : Int
  sh : Bool
  wa : Bool
  ag : Bool
  ct : Int
def Gt.A (g : Gt) : Array Value := gtA g.cr g.nx g.ha g.sh g.wa g.ag g.ct
def Gt.may (g : Gt) : Bool := gtB g.cr g.nx g.ha g.ct
def Gt.cnt (g : Gt) : Gt := { g with ct := (g.ct + 1) % 4 }
def Gt.calm (g : Gt) : Gt := { g with wa := false, ag := false }
/-- an order that has to be the next one -/
def Gt.que (g : Gt) (sq : Int) (room : Bool) : Gt × Nat :=
  if g.sh = true then (g, 15)
  else if (sq - g.nx) % 256 = 0 then (if room = true then ((Gt.mk g.cr ((g.nx + 1) % 256) g.ha g.sh false false g.ct), 0) else (Gt.mk g.cr g.nx g.ha g.sh true true g.ct, 12))
  else if (sq - g.nx) % 256 < g.ha then (Gt.mk g.cr g.nx g.ha g.sh g.wa true g.ct, 7)
  else if 256 - g.ha ≤ (sq - g.nx) % 256 then (g, 13) else (Gt.mk g.cr g.nx g.ha true g.wa g.ag g.ct, 15)
theorem gmay_ok {g : Gt} (h : g.may = true) : (0 ≤ g.cr ∧ g.cr ≤ 1023) ∧ (0 ≤ g.nx ∧ g.nx ≤ 255) ∧ (1 ≤ g.ha ∧ g.ha ≤ 127) ∧ (0 ≤ g.ct ∧ g.ct ≤ 3) := by
  unfold Gt.may gtB at h
  simp only [Bool.and_eq_true_iff] at h
  obtain ⟨⟨⟨a1, a2⟩, a3⟩, a4⟩ := h
  exact ⟨kwB_ok a1, kwB_ok a3, kwB_ok a2, kwB_ok a4⟩
set_option maxHeartbeats 2000000 in
theorem count_any (b : Nat) (cr nx ha : Int) (sh wa ag : Bool) (ct : Int) (w : World) (h : BxS w b 83 (gtA cr nx ha sh wa ag ct)) (h0 : 0 ≤ ct) (h3 : ct ≤ 3) :
    Calls Try.prog 46 #[.pointer (some ⟨b, 0, none⟩)] w fun e w' => e = .returned (.tuple #[]) ∧ BxS w' b 83 (gtA cr nx ha sh wa ag ((ct + 1) % 4)) ∧ w.grownBy w' (some b) := by
  obtain ⟨c0, c1, c2, c3, c4, c5, c6⟩ := BxS.cell7 h
  have f6 := h.free 6
  have hS : Hid _ := h.set 6 (.int .i64 ((ct + 1) % 4))
  have gS := grown_set w b 6 (.int .i64 ((ct + 1) % 4))
  obtain ⟨k, rfl⟩ := Int.eq_ofNat_of_zero_le h0
  have ha' : bits .and .i64 ((k : Int) + 1) 3 = ((k : Int) + 1) % 4 := by
    rw [show ((k : Int) + 1) = ((k + 1 : Nat) : Int) by omega]
    exact i64_low (k + 1) 2 (by omega) (by decide)
  go_enter Try.func46, Try.ntmps46
  go_wp2
  go_end0
  exact ⟨rfl, hS.out, gS⟩
set_option maxHeartbeats 2000000 in
theorem calm_any (b : Nat) (cr nx ha : Int) (sh wa ag : Bool) (ct : Int) (w : World) (h : BxS w b 83 (gtA cr nx ha sh wa ag ct)) :
    Calls Try.prog 49 #[.pointer (some ⟨b, 0, none⟩)] w fun e w' => e = .returned (.tuple #[]) ∧ BxS w' b 83 (gtA cr nx ha sh false false ct) ∧ w.grownBy w' (some b) := by
  obtain ⟨c0, c1, c2, c3, c4, c5, c6⟩ := BxS.cell7 h
  have f4 := h.free 4
  have hS := h.set 4 (.bool false)
  have f5 := hS.free 5
  have c5' := (BxS.cell7 hS).2.2.2.2.2.1
  have hT : Hid _ := hS.set 5 (.bool false)
  have gS := grown_trans (grown_set w b 4 (.bool false)) (grown_set (w.setCell ⟨b, 4, none⟩ (.bool false)) b 5 (.bool false))
  go_enter Try.func49, Try.ntmps49
  go_wp2
  go_end0
  exact ⟨rfl, hT.out, gS⟩
set_option maxHeartbeats 8000000 in
theorem queue_any (b : Nat) (g : Gt) (sq : Int) (room : Bool) (w : World) (h : BxS w b 83 g.A) (hg : g.may = true) (s0 : 0 ≤ sq) (s1 : sq ≤ 255) :
    Calls Try.prog 47 #[.pointer (some ⟨b, 0, none⟩), .int .i64 sq, .bool room] w fun e w' => e = .returned (.int .i64 ((g.que sq room).2 : Nat)) ∧ BxS w' b 83 (g.que sq room).1.A ∧ w.grownBy w' (some b) := by
  obtain ⟨⟨q1, q2⟩, ⟨n1, n2⟩, ⟨a1, a2⟩, ⟨k1, k2⟩⟩ := gmay_ok hg
  obtain ⟨cr, nx, ha, sh, wa, ag, ct⟩ := g
  unfold Gt.que
  simp only [Gt.A] at h n1 n2 a1 a2 k1 k2 q1 q2 ⊢
  clear hg
  obtain ⟨c0, c1, c2, c3, c4, c5, c6⟩ := BxS.cell7 h
  have t1 : True := trivial
  cases sh
  case true =>
    rw [if_pos rfl]
    go_enter Try.func47, Try.ntmps47
    go_wp2
    go_ret
    exact ⟨rfl, h, World.grownBy.refl _ _⟩
  rw [if_neg (by decide)]
  have hA := fun wz => around_any (sq - nx) wz
  have hd0 : 0 ≤ (sq - nx) % 256 := by omega
  have hd1 : (sq - nx) % 256 < 256 := by omega
  generalize (sq - nx) % 256 = d at hA hd0 hd1 ⊢
  by_cases h0 : d = 0
  · rw [if_pos h0]
    subst h0
    cases room
    · have f4 := h.free 4
      have hS := h.set 4 (.bool true)
      have f5 := hS.free 5
      have c5' := (BxS.cell7 hS).2.2.2.2.2.1
      have hT : Hid _ := hS.set 5 (.bool true)
      have gS := grown_trans (grown_set w b 4 (.bool true)) (grown_set (w.setCell ⟨b, 4, none⟩ (.bool true)) b 5 (.bool true))
      go_enter Try.func47, Try.ntmps47
      go_wp2_with (first
        | (go_at_call 41; refine (hA _).mono ?_; rintro e wx ⟨rfl, hw⟩; have hw := hw.symm; subst hw))
      go_ret
      exact ⟨rfl, hT.out, gS⟩
    · have hB := fun wz => around_any (nx + 1) wz
      generalize (nx + 1) % 256 = y at hB ⊢
      have f1 := h.free 1
      have hS : BxS _ b 83 (gtA cr y ha false wa ag ct) := h.set 1 (.int .i64 y)
      have gS := grown_set w b 1 (.int .i64 y)
      have hC := calm_any b cr y ha false wa ag ct _ hS
      go_enter Try.func47, Try.ntmps47
      go_wp2_with (first
        | (go_at_call 41; have _t := t1; clear t1; refine (hA _).mono ?_; rintro e wx ⟨rfl, hw⟩; have hw := hw.symm; subst hw; have t2 : True := trivial)
        | (go_at_call 41; have _t := t2; clear t2; refine (hB _).mono ?_; rintro e wx ⟨rfl, hw⟩; have hw := hw.symm; subst hw)
        | (go_at_call 49; refine hC.mono ?_; rintro e w2 ⟨rfl, h2, g2⟩))
      go_ret
      exact ⟨rfl, h2, grown_trans gS g2⟩
  · rw [if_neg h0]
    have l0 : ((d == 0) : Bool) = false := by simp; omega
    by_cases h1 : d < ha
    · rw [if_pos h1]
      have f5 := h.free 5
      have hS : Hid _ := h.set 5 (.bool true)
      have gS := grown_set w b 5 (.bool true)
      go_enter Try.func47, Try.ntmps47
      go_wp2_with (first
        | (go_at_call 41; refine (hA _).mono ?_; rintro e wx ⟨rfl, hw⟩; have hw := hw.symm; subst hw))
      go_ret
      exact ⟨rfl, hS.out, gS⟩
    · rw [if_neg h1]
      by_cases h2 : 256 - ha ≤ d
      · rw [if_pos h2]
        have l2 : 255 - ha < d := by omega
        go_enter Try.func47, Try.ntmps47
        go_wp2_with (first
          | (go_at_call 41; refine (hA _).mono ?_; rintro e wx ⟨rfl, hw⟩; have hw := hw.symm; subst hw))
        go_ret
        exact ⟨rfl, h, World.grownBy.refl _ _⟩
      · rw [if_neg h2]
        have l2 : ¬ 255 - ha < d := by omega
        have f3 := h.free 3
        have hS : Hid _ := h.set 3 (.bool true)
        have gS := grown_set w b 3 (.bool true)
        go_enter Try.func47, Try.ntmps47
        go_wp2_with (first
          | (go_at_call 41; refine (hA _).mono ?_; rintro e wx ⟨rfl, hw⟩; have hw := hw.symm; subst hw))
        go_ret
        exact ⟨rfl, hS.out, gS⟩
end

section
theorem plain_u8 : Try.prog.plainKey 5 = true := by kernel_rfl
theorem cells_u8 : Try.prog.cellsOf 5 = 1 := by kernel_rfl
theorem eq_u8 (d : Nat) (x y : Int) (w : World) : (Op.equalIn (d + 1) 5 (.int .u8 x) (.int .u8 y)).run Try.prog w = .ok (x == y) w := run_equalIn_int w d 5 .u8 .u8 x y Try.underlying5
theorem items_u8 (d : Nat) (xs ys : List Int) (is : List Nat) (w : World) (hx : ∀ i ∈ is, i < xs.length) (hy : ∀ i ∈ is, i < ys.length) :
    (Op.eqItems (d + 1) 5 1 (xs.map (Value.int .u8 ·)).toArray (ys.map (Value.int .u8 ·)).toArray is).run Try.prog w = .ok (is.all fun i => xs.getD i 0 == ys.getD i 0) w := by
  induction is with
  | nil => simp [Op.eqItems]
  | cons i is ih =>
    have h1 := hx i (by simp)
    have h2 := hy i (by simp)
    have p1 := run_part_plain w plain_u8 (xs := (xs.map (Value.int .u8 ·)).toArray) (off := i * 1) (v := .int .u8 (xs.getD i 0)) (by simp [h1])
    have p2 := run_part_plain w plain_u8 (xs := (ys.map (Value.int .u8 ·)).toArray) (off := i * 1) (v := .int .u8 (ys.getD i 0)) (by simp [h2])
    simp only [Op.eqItems, Sem.run_bind, p1, p2, Result.andThen_ok, eq_u8]
    rw [List.all_cons]
    cases hb : (xs.getD i 0 == ys.getD i 0) with
    | false => simp
    | true => simpa using ih (fun j hj => hx j (by simp [hj])) (fun j hj => hy j (by simp [hj]))
/-- arrays of bytes compared -/
theorem arr_u8 {t : TypeId} {n : Nat} (hu : Try.prog.underlying t = some (.array n 5)) (xs ys : List Int) (hx : xs.length = n) (hy : ys.length = n) (w : World) :
    (Op.equalIn 10000 t (.agg (xs.map (Value.int .u8 ·)).toArray) (.agg (ys.map (Value.int .u8 ·)).toArray)).run Try.prog w = .ok ((List.range n).all fun i => xs.getD i 0 == ys.getD i 0) w := by
  obtain ⟨i0, hi, _⟩ := info_parts Try.info_u8
  rw [run_equalIn_array w 9999 _ _ hu hi, cells_u8]
  exact items_u8 9998 xs ys _ w (fun i h => by rw [hx]; exact List.mem_range.1 h) (fun i h => by rw [hy]; exact List.mem_range.1 h)
theorem arr1_u8 (x y : Int) (w : World) : (Op.equalIn 10000 95 (.agg #[.int .u8 x]) (.agg #[.int .u8 y])).run Try.prog w = .ok (x == y) w :=
  (arr_u8 Try.underlying95 [x] [y] rfl rfl w).trans (by congr 1; simp [List.range_succ])
theorem arr2_u8 (x x' y y' : Int) (w : World) : (Op.equalIn 10000 96 (.agg #[.int .u8 x, .int .u8 x']) (.agg #[.int .u8 y, .int .u8 y'])).run Try.prog w = .ok (x == y && x' == y') w :=
  (arr_u8 Try.underlying96 [x, x'] [y, y'] rfl rfl w).trans (by congr 1; simp [List.range_succ])
theorem arr_at {P : Program} {w : World} (arr e : TypeId) (n : Nat) (a : Option Addr) (len cap : Nat) (h : P.underlying arr = some (.array n e)) (hn : n ≤ len) : (Instr.arrayAt arr (.slice a len cap)).run P w = .ok (.pointer a) w := by
  simp [Instr.arrayAt, run_underlying h, Nat.not_lt.2 hn]
/-- what is for the gate itself -/
def Gt.oby (g : Gt) (D : List Nat) : Gt × Nat :=
  if D.length = 1 ∧ nth D 0 = 0 then (Gt.mk g.cr g.nx g.ha false false false ((g.ct + 1) % 4), 0)
  else if D.length = 3 ∧ nth D 0 = 130 ∧ nth D 1 = 0 then (if g.sh = true then (Gt.mk g.cr g.nx g.ha g.sh g.wa g.ag ((g.ct + 1) % 4), 0) else (Gt.mk g.cr (nth D 2) g.ha g.sh false false ((g.ct + 1) % 4), 0))
  else (g, 8)
set_option maxHeartbeats 16000000 in
theorem obey_any (b : Nat) (g : Gt) (a : Option Addr) (n c : Nat) (D : List Nat) (w : World) (h : BxS w b 83 g.A) (hg : g.may = true) (hR : Rd w a n c D) (hn : n ≤ 1017) :
    Calls Try.prog 45 #[.pointer (some ⟨b, 0, none⟩), .slice a n c] w fun e w' => e = .returned (.int .i64 ((g.oby D).2 : Nat)) ∧ BxS w' b 83 (g.oby D).1.A ∧ w.grownBy w' (some b) := by
  obtain ⟨⟨q1, q2⟩, ⟨n1, n2⟩, ⟨a1, a2⟩, ⟨k1, k2⟩⟩ := gmay_ok hg
  obtain ⟨cr, nx, ha, sh, wa, ag, ct⟩ := g
  unfold Gt.oby
  simp only [Gt.A] at h n1 n2 a1 a2 k1 k2 q1 q2 ⊢
  clear hg
  obtain ⟨c0, c1, c2, c3, c4, c5, c6⟩ := BxS.cell7 h
  have hle := hR.le
  rw [hR.len]
  by_cases e1 : n = 1
  · subst e1
    obtain ⟨bd, off, rfl, hbw, hcc⟩ := hR.at' (by omega)
    have d0 := hcc 0 (by omega)
    rw [Nat.add_zero] at d0
    clear hcc
    have hAr := fun cz => arr_at (P := Try.prog) (w := w) 95 _ 1 (some ⟨bd, off, none⟩) 1 cz Try.underlying95 (Nat.le_refl _)
    generalize nth D 0 = x at d0 ⊢
    by_cases hx : x = 0
    · subst hx
      have hEq := arr1_u8 0 0 w
      rw [show ((0 : Int) == 0) = true from rfl] at hEq
      rw [if_pos ⟨rfl, rfl⟩]
      have f3 := h.free 3
      have hS : BxS _ b 83 (gtA cr nx ha false wa ag ct) := h.set 3 (.bool false)
      have gS := grown_set w b 3 (.bool false)
      have hC := calm_any b cr nx ha false wa ag ct _ hS
      have hK := fun wz hz => count_any b cr nx ha false false false ct wz hz k1 k2
      go_enter Try.func45, Try.ntmps45
      go_wp2_with (first
        | (go_at_call 49; refine hC.mono ?_; rintro e w2 ⟨rfl, h2, g2⟩)
        | (go_at_call 46; refine (hK w2 h2).mono ?_; rintro e w3 ⟨rfl, h3, g3⟩))
      go_ret
      exact ⟨rfl, h3, grown_trans gS (grown_trans g2 g3)⟩
    · rw [if_neg (fun h => hx h.2), if_neg (fun h => by omega)]
      have l0 : (((x : Int) == 0) : Bool) = false := by simp; omega
      have hEq := arr1_u8 x 0 w
      rw [l0] at hEq
      clear hx
      go_enter Try.func45, Try.ntmps45
      go_wp2
      go_ret
      exact ⟨rfl, h, World.grownBy.refl _ _⟩
  · rw [if_neg (fun h => e1 h.1)]
    have l1 : (((n : Int) == 1) : Bool) = false := by simp; omega
    by_cases e3 : n = 3
    · subst e3
      obtain ⟨bd, off, rfl, hbw, hcc⟩ := hR.at' (by omega)
      have d0 := hcc 0 (by omega)
      have d1 := hcc 1 (by omega)
      have d2 := hcc 2 (by omega)
      rw [Nat.add_zero] at d0
      clear hcc
      have hAr := fun cz => arr_at (P := Try.prog) (w := w) 96 _ 2 (some ⟨bd, off, none⟩) 3 cz Try.underlying96 (by decide)
      have b2 := hR.byte.nth 2
      generalize nth D 0 = x at d0 ⊢
      generalize nth D 1 = y at d1 ⊢
      generalize nth D 2 = z at d2 b2 ⊢
      by_cases hx : x = 130
      · subst hx
        by_cases hy : y = 0
        · subst hy
          rw [if_pos ⟨rfl, rfl, rfl⟩]
          have hEq := arr2_u8 130 0 130 0 w
          rw [show (((130 : Int) == 130) && ((0 : Int) == 0)) = true from rfl] at hEq
          cases sh
          · rw [if_neg (by decide)]
            have f1 := h.free 1
            have hS : BxS _ b 83 (gtA cr (z : Int) ha false wa ag ct) := h.set 1 (.int .i64 (z : Int))
            have gS := grown_set w b 1 (.int .i64 (z : Int))
            have hC := calm_any b cr (z : Int) ha false wa ag ct _ hS
            have hK := fun wz hz => count_any b cr (z : Int) ha false false false ct wz hz k1 k2
            go_enter Try.func45, Try.ntmps45
            go_wp2_with (first
              | (go_at_call 49; refine hC.mono ?_; rintro e w2 ⟨rfl, h2, g2⟩)
              | (go_at_call 46; refine (hK w2 h2).mono ?_; rintro e w3 ⟨rfl, h3, g3⟩))
            go_ret
            exact ⟨rfl, h3, grown_trans gS (grown_trans g2 g3)⟩
          · rw [if_pos rfl]
            have hK := count_any b cr nx ha true wa ag ct w h k1 k2
            go_enter Try.func45, Try.ntmps45
            go_wp2_with (first
              | (go_at_call 46; refine hK.mono ?_; rintro e w3 ⟨rfl, h3, g3⟩))
            go_ret
            exact ⟨rfl, h3, g3⟩
        · rw [if_neg (fun h => hy h.2.2)]
          have l0 : (((y : Int) == 0) : Bool) = false := by simp; omega
          have hEq := arr2_u8 130 y 130 0 w
          rw [l0, Bool.and_false] at hEq
          clear hy
          go_enter Try.func45, Try.ntmps45
          go_wp2
          go_ret
          exact ⟨rfl, h, World.grownBy.refl _ _⟩
      · rw [if_neg (fun h => hx h.2.1)]
        have l0 : (((x : Int) == 130) : Bool) = false := by simp; omega
        have hEq := arr2_u8 x y 130 0 w
        rw [l0, Bool.false_and] at hEq
        clear hx
        go_enter Try.func45, Try.ntmps45
        go_wp2
        go_ret
        exact ⟨rfl, h, World.grownBy.refl _ _⟩
    · rw [if_neg (fun h => e3 h.1)]
      have l3 : (((n : Int) == 3) : Bool) = false := by simp; omega
      go_enter Try.func45, Try.ntmps45
      go_wp2
      go_ret
      exact ⟨rfl, h, World.grownBy.refl _ _⟩
/-- an order that may be, for this craft -/
def Gt.tak (g : Gt) (bp co : Bool) (sq : Int) (D : List Nat) (room : Bool) : Gt × Bool × Nat :=
  if co = true then ((g.oby D).1, false, (g.oby D).2) else if bp = true then (g.cnt, true, 0) else ((g.que sq room).1, decide ((g.que sq room).2 = 0), (g.que sq room).2)
set_option maxHeartbeats 8000000 in
theorem ktake_any (b : Nat) (g : Gt) (cr : Int) (bp co : Bool) (sq : Int) (a : Option Addr) (n c : Nat) (D : List Nat) (room : Bool) (w : World) (h : BxS w b 83 g.A) (hg : g.may = true) (hR : Rd w a n c D) (hn : n ≤ 1017) (s0 : 0 ≤ sq) (s1 : sq ≤ 255) :
    Calls Try.prog 40 #[.pointer (some ⟨b, 0, none⟩), .agg (orA cr bp co sq a n c), .bool room] w fun e w' => e = .returned (.tuple #[.bool (g.tak bp co sq D room).2.1, .int .i64 ((g.tak bp co sq D room).2.2 : Nat)]) ∧ BxS w' b 83 (g.tak bp co sq D room).1.A ∧ w.grownBy w' (some b) := by
  have hO := fun wz h1 h2 => obey_any b g a n c D wz h1 hg h2 hn
  have hQ := fun wz h1 => queue_any b g sq room wz h1 hg s0 s1
  have hK := fun wz (h1 : BxS wz b 83 g.A) => count_any b g.cr g.nx g.ha g.sh g.wa g.ag g.ct wz h1 (gmay_ok hg).2.2.2.1 (gmay_ok hg).2.2.2.2
  have b0 := BxS.new w 62 (orA cr bp co sq a n c)
  have g0 := World.grownBy_alloc w (.cells (orA cr bp co sq a n c) 62) none
  unfold Gt.tak
  unfold orA at b0 g0 ⊢
  generalize hw0 : w.alloc (.cells #[.int .i64 cr, .bool bp, .bool co, .int .i64 sq, .slice a n c] 62) = w0 at b0 g0
  obtain ⟨c0, c1, c2, c3, c4⟩ := b0.cell5
  have h0 := h.keep g0 (by simp)
  have hR0 := hR.keep g0
  have gW := grown_weak g0 (some b)
  cases co
  case true =>
    rw [if_pos rfl]
    generalize (g.oby D).1.A = Z at hO ⊢
    generalize (g.oby D).2 = E at hO ⊢
    go_enter Try.func40, Try.ntmps40
    go_wp2_with (first
      | (go_at_call 45; refine (hO w0 h0 hR0).mono ?_; rintro e w2 ⟨rfl, h2, g2⟩))
    go_ret2
    exact ⟨rfl, h2, grown_trans gW g2⟩
  rw [if_neg (by decide)]
  cases bp
  case true =>
    rw [if_pos rfl]
    unfold Gt.cnt Gt.A
    go_enter Try.func40, Try.ntmps40
    go_wp2_with (first
      | (go_at_call 46; refine (hK w0 h0).mono ?_; rintro e w2 ⟨rfl, h2, g2⟩))
    go_ret2
    exact ⟨rfl, h2, grown_trans gW g2⟩
  rw [if_neg (by decide)]
  generalize (g.que sq room).1.A = Z at hQ ⊢
  generalize (g.que sq room).2 = E at hQ ⊢
  by_cases hE : E = 0
  · subst hE
    go_enter Try.func40, Try.ntmps40
    go_wp2_with (first
      | (go_at_call 47; refine (hQ w0 h0).mono ?_; rintro e w2 ⟨rfl, h2, g2⟩))
    go_ret2
    exact ⟨rfl, h2, grown_trans gW g2⟩
  · rw [decide_eq_false hE]
    have l0 : (((E : Int) == 0) : Bool) = false := by simp; omega
    go_enter Try.func40, Try.ntmps40
    go_wp2_with (first
      | (go_at_call 47; refine (hQ w0 h0).mono ?_; rintro e w2 ⟨rfl, h2, g2⟩))
    go_ret2
    exact ⟨rfl, h2, grown_trans gW g2⟩
end

section
def gt0 : Gt := ⟨0, 0, 0, false, false, false, 0⟩
/-- what Accept answers -/
def Gt.acc (g : Gt) (cr : Int) (bp co : Bool) (sq : Int) (D : List Nat) (room : Bool) : Gt × Bool × Nat :=
  if g.may = true then (if orE cr bp co sq D.length = 0 then (if cr = g.cr then g.tak bp co sq D room else (g, false, 10)) else (g, false, orE cr bp co sq D.length)) else (gt0, false, 11)
set_option maxHeartbeats 16000000 in
theorem accept_any (g : Gt) (cr : Int) (bp co : Bool) (sq : Int) (a : Option Addr) (n c : Nat) (D : List Nat) (room : Bool) (w : World) (hR : Rd w a n c D) :
    Calls Try.prog 23 #[.agg g.A, .agg (orA cr bp co sq a n c), .bool room] w fun e w' => e = .returned (.tuple #[.agg (g.acc cr bp co sq D room).1.A, .bool (g.acc cr bp co sq D room).2.1, .int .i64 ((g.acc cr bp co sq D room).2.2 : Nat)]) ∧ w.grownBy w' none := by
  have HL : Hid (D.length = n) := hR.len
  have hM := fun wz => gmay_any g.cr g.nx g.ha g.sh g.wa g.ag g.ct wz
  have hW := fun wz => worder_any cr bp co sq a n c wz
  have hT := fun b wz h1 h2 h3 h4 h5 h6 => ktake_any b g cr bp co sq a n c D room wz h1 h2 h3 h4 h5 h6
  unfold Gt.acc
  rw [HL.out]
  generalize g.tak bp co sq D room = T at hT ⊢
  obtain ⟨T1, T2, T3⟩ := T
  have hok := @orE_ok cr bp co sq n
  have hM : ∀ wz : World, Calls Try.prog 15 #[.agg (gtA g.cr g.nx g.ha g.sh g.wa g.ag g.ct)] wz fun e w' => e = .returned (.bool g.may) ∧ wz.grownBy w' none := hM
  obtain ⟨gr, nx, ha, sh, wa, ag, ct⟩ := g
  obtain ⟨ur, ux, ua, uh, uw, ug, ut⟩ := T1
  generalize orE cr bp co sq n = E at hW hok ⊢
  generalize Gt.may ⟨gr, nx, ha, sh, wa, ag, ct⟩ = M at hM hT ⊢
  simp only [Gt.A] at hT ⊢
  have bG := BxS.new w 28 (gtA gr nx ha sh wa ag ct)
  have g0 := World.grownBy_alloc w (.cells (gtA gr nx ha sh wa ag ct) 28) none
  unfold gtA at bG g0
  generalize hw0 : w.alloc (.cells #[.int .i64 gr, .int .i64 nx, .int .i64 ha, .bool sh, .bool wa, .bool ag, .int .i64 ct] 28) = w0 at bG g0
  have bO := BxS.new w0 62 (orA cr bp co sq a n c)
  have g1 := World.grownBy_alloc w0 (.cells (orA cr bp co sq a n c) 62) none
  unfold orA at bO g1
  generalize hw1 : w0.alloc (.cells #[.int .i64 cr, .bool bp, .bool co, .int .i64 sq, .slice a n c] 62) = w1 at bO g1
  have bZ := BxS.new w1 28 #[.int .i64 0, .int .i64 0, .int .i64 0, .bool false, .bool false, .bool false, .int .i64 0]
  have g2 := World.grownBy_alloc w1 (.cells #[.int .i64 0, .int .i64 0, .int .i64 0, .bool false, .bool false, .bool false, .int .i64 0] 28) none
  generalize hw2 : w1.alloc (.cells #[.int .i64 0, .int .i64 0, .int .i64 0, .bool false, .bool false, .bool false, .int .i64 0] 28) = w2 at bZ g2
  have z1 := bG.lt
  have z2 := bO.lt
  have z3 := bZ.lt
  have BG := (bG.keep g1 (by simp)).keep g2 (by simp)
  have BO := bO.keep g2 (by simp)
  have G := grown_trans (grown_trans g0 g1) g2
  have hs1 := g0.size
  have hs2 := g1.size
  have hs3 := g2.size
  have hR2 := hR.keep G
  have i7 := Try.info_gt
  obtain ⟨c0, c1, c2, c3, c4, c5, c6⟩ := BG.cell7
  obtain ⟨d0, d1, d2, d3, d4⟩ := BO.cell5
  have t1 : True := trivial
  have t2 : True := trivial
  unfold gtA at hM hT ⊢
  unfold orA at hW hT ⊢
  cases M
  case false =>
    rw [if_neg (by decide)]
    unfold gt0
    go_enter Try.func23, Try.ntmps23
    go_wp2_with (first
      | (go_at_call 15; have _t := t1; clear t1; refine (hM _).mono ?_; rintro e w3 ⟨rfl, g3⟩; have bZ3 := bZ.keep g3 (by simp))
      | (have _t := t2; refine wpList_stX _ rfl _ (.tmp 6) (.tmp 16) rfl w1.heap.size _ _ rfl rfl bZ3 i7 rfl (by simp [Value.oneCell']) ?_; clear t2; intro w9 b9 g9))
    refine bodyPost_ret (results_cell3 rfl _ _ _ ⟨w1.heap.size, 0, none⟩ _ (.bool false) (.int .i64 11) rfl (BxS.load (t := 28) b9 Try.underlying28 Try.info_gt) rfl rfl) rfl ?_
    exact ⟨rfl, grown_far (grown_trans G g3) g9 (fun q e => by cases e; omega)⟩
  rw [if_pos rfl]
  by_cases hE : E = 0
  case neg =>
    rw [if_neg hE]
    have hne : (((E : Int) != 0) : Bool) = true := by simp; omega
    clear hok hE
    go_enter Try.func23, Try.ntmps23
    go_wp2_with (first
      | (go_at_call 15; have _t := t1; clear t1; refine (hM _).mono ?_; rintro e w3 ⟨rfl, g3⟩; clear c0 c1 c2 c3 c4 c5 c6 d0 d1 d2 d3 d4; obtain ⟨d0, d1, d2, d3, d4⟩ := (BO.keep g3 (by simp)).cell5)
      | (go_at_call 39; refine (hW _).mono ?_; rintro e w4 ⟨rfl, g4⟩; clear d0 d1 d2 d3 d4; have g34 := grown_trans g3 g4; have bZ4 := bZ.keep g34 (by simp); obtain ⟨c0, c1, c2, c3, c4, c5, c6⟩ := (BG.keep g34 (by simp)).cell7)
      | (have _t := t2; refine wpList_stX _ rfl _ (.tmp 6) (.tmp 21) rfl w1.heap.size _ _ rfl rfl bZ4 i7 rfl (by simp [Value.oneCell']) ?_; clear t2; intro w9 b9 g9))
    refine bodyPost_ret (results_cell3 rfl _ _ _ ⟨w1.heap.size, 0, none⟩ _ (.bool false) (.int .i64 (E : Int)) rfl (BxS.load (t := 28) b9 Try.underlying28 Try.info_gt) rfl rfl) rfl ?_
    exact ⟨rfl, grown_far (grown_trans G g34) g9 (fun q e => by cases e; omega)⟩
  rw [if_pos hE]
  subst hE
  obtain ⟨_, ⟨s1, s2⟩, _, n1, n2⟩ := hok rfl
  clear hok
  by_cases hC : cr = gr
  case neg =>
    rw [if_neg hC]
    have hne : ((cr != gr) : Bool) = true := by simp; omega
    clear hC
    go_enter Try.func23, Try.ntmps23
    go_wp2_with (first
      | (go_at_call 15; have _t := t1; clear t1; refine (hM _).mono ?_; rintro e w3 ⟨rfl, g3⟩; clear c0 c1 c2 c3 c4 c5 c6 d0 d1 d2 d3 d4; obtain ⟨d0, d1, d2, d3, d4⟩ := (BO.keep g3 (by simp)).cell5)
      | (go_at_call 39; refine (hW _).mono ?_; rintro e w4 ⟨rfl, g4⟩; clear d0 d1 d2 d3 d4; have g34 := grown_trans g3 g4; have bZ4 := bZ.keep g34 (by simp); obtain ⟨c0, c1, c2, c3, c4, c5, c6⟩ := (BG.keep g34 (by simp)).cell7; obtain ⟨d0, d1, d2, d3, d4⟩ := (BO.keep g34 (by simp)).cell5)
      | (have _t := t2; refine wpList_stX _ rfl _ (.tmp 6) (.tmp 28) rfl w1.heap.size _ _ rfl rfl bZ4 i7 rfl (by simp [Value.oneCell']) ?_; clear t2; intro w9 b9 g9))
    refine bodyPost_ret (results_cell3 rfl _ _ _ ⟨w1.heap.size, 0, none⟩ _ (.bool false) (.int .i64 10) rfl (BxS.load (t := 28) b9 Try.underlying28 Try.info_gt) rfl rfl) rfl ?_
    exact ⟨rfl, grown_far (grown_trans G g34) g9 (fun q e => by cases e; omega)⟩
  rw [if_pos hC]
  subst hC
  go_enter Try.func23, Try.ntmps23
  go_wp2_with (first
    | (go_at_call 15; have _t := t1; clear t1; refine (hM _).mono ?_; rintro e w3 ⟨rfl, g3⟩; clear c0 c1 c2 c3 c4 c5 c6 d0 d1 d2 d3 d4; obtain ⟨d0, d1, d2, d3, d4⟩ := (BO.keep g3 (by simp)).cell5)
    | (go_at_call 39; refine (hW _).mono ?_; rintro e w4 ⟨rfl, g4⟩; clear d0 d1 d2 d3 d4; have g34 := grown_trans g3 g4; obtain ⟨c0, c1, c2, c3, c4, c5, c6⟩ := (BG.keep g34 (by simp)).cell7; have gA := World.grownBy_alloc w4 (.cells #[.int .i64 cr, .int .i64 nx, .int .i64 ha, .bool sh, .bool wa, .bool ag, .int .i64 ct] 83) none; have N5 := BxS.new w4 83 #[.int .i64 cr, .int .i64 nx, .int .i64 ha, .bool sh, .bool wa, .bool ag, .int .i64 ct]; have g35 := grown_trans g34 gA; obtain ⟨d0, d1, d2, d3, d4⟩ := (BO.keep g35 (by simp)).cell5; obtain ⟨d0', _, _, _, _⟩ := (BO.keep g34 (by simp)).cell5)
    | (go_at_call 40; refine (hT w4.heap.size _ N5 (by trivial) (hR2.keep g35) n2 s1 s2).mono ?_; rintro e w6 ⟨rfl, h6, g6⟩; clear c0 c1 c2 c3 c4 c5 c6 d0 d1 d2 d3 d4; have bZ6 := (bZ.keep g35 (by simp)).keep g6 (by have := g34.size; simp; omega); obtain ⟨c0, c1, c2, c3, c4, c5, c6⟩ := h6.cell7)
    | (have _t := t2; refine wpList_stX _ rfl _ (.tmp 6) (.tmp 38) rfl w1.heap.size _ _ rfl rfl bZ6 i7 rfl (by simp [Value.oneCell']) ?_; clear t2; intro w9 b9 g9))
  refine bodyPost_ret (results_cell3 rfl _ _ _ ⟨w1.heap.size, 0, none⟩ _ (.bool T2) (.int .i64 (T3 : Int)) rfl (BxS.load (t := 28) b9 Try.underlying28 Try.info_gt) rfl rfl) rfl ?_
  exact ⟨rfl, grown_far (grown_far (grown_trans G g35) g6 (fun q e => by cases e; have := (grown_trans G g34).size; omega)) g9 (fun q e => by cases e; omega)⟩
end

section
/-- what Ask does to a hand that may be -/
def axO (d : Hd) (D : List Nat) : Bool := kwB (D.length : Nat) 1 1017 && decide (d.Q.length < 100)
def axV (d : Hd) (D : List Nat) : Hd := if axO d D = true then ⟨d.cr, d.nx, d.ah, d.ti, d.pa, d.tr, d.li, d.si, d.pu, d.hl, d.S, d.Q ++ [D]⟩ else d
def axE (d : Hd) (D : List Nat) : Nat := if kwB (D.length : Nat) 1 1017 = true then (if d.Q.length < 100 then 0 else 12) else 1
set_option maxHeartbeats 64000000 in
theorem ask1_any (gd : Nat) (a : Option Addr) (n c : Nat) (D : List Nat) (d : Hd) (lo : Nat) (wz : World) (g : Nat) (Z : Hx) (rs qs : List Rw) (bd : BxS wz gd 29 #[.slice a n c]) (hR : Rd wz a n c D) (hlo : lo ≤ g) (hB : BxS wz g 57 #[.int .i64 d.cr, .int .i64 d.nx, .int .i64 d.ah, .slice Z.sa Z.sn Z.sc, .slice Z.qa Z.qn Z.qc, .int .i64 d.ti, .int .i64 d.pa, .int .i64 d.tr, .int .i64 d.li, .int .i64 d.si, .int .i64 d.pu, .int .i64 d.hl, .slice none 0 0]) (hO : OwHd wz lo Z rs qs d) (hq : d.Q.length ≤ 100) :
    Calls Try.prog 17 #[.pointer (some ⟨g, 0, none⟩), .pointer (some ⟨gd, 0, none⟩)] wz fun e w' => ∃ (P1 : Hx) (rs1 qs1 : List Rw) (xa : Option Addr) (xn xc : Nat) (us1 : List Rw), e = .returned (.int .i64 (axE d D : Int)) ∧ BxS w' g 57 #[.int .i64 (axV d D).cr, .int .i64 (axV d D).nx, .int .i64 (axV d D).ah, .slice P1.sa P1.sn P1.sc, .slice P1.qa P1.qn P1.qc, .int .i64 (axV d D).ti, .int .i64 (axV d D).pa, .int .i64 (axV d D).tr, .int .i64 (axV d D).li, .int .i64 (axV d D).si, .int .i64 (axV d D).pu, .int .i64 (axV d D).hl, .slice xa xn xc] ∧ OwHd w' lo P1 rs1 qs1 (axV d D) ∧ OwW w' lo xa xn xc us1 [] ∧ (∀ x, Ofr (.slice xa xn xc) us1 x → ¬ Hbl P1 rs1 qs1 x) ∧ Fz (fun i => lo ≤ i) wz w' := by
  have x0 : wz.cell? ⟨gd, 0, none⟩ = some (.slice a n c) := bd.cell 0 (by show 0 < 1; decide)
  have hl := hR.len
  have lq := hO.q.len
  have hZ := size_any a n c wz
  have hgz := hB.lt
  obtain ⟨h0, h1, h2, h3, h4, h5, h6, h7, h8, h9, h10, h11, h12⟩ := hB.cell13
  have s0 : True := trivial
  cases hk : kwB (n : Nat) 1 1017 with
  | false =>
    have e1 : axV d D = d := by unfold axV axO; rw [hl, hk]; rfl
    have e2 : axE d D = 1 := by unfold axE; rw [hl, hk]; rfl
    rw [hk] at hZ
    rw [e1, e2]
    clear e1 e2 hk
    go_enter Try.func17, Try.ntmps17
    go_wp2_with (go_at_call 18; refine hZ.mono ?_; rintro e w1 ⟨rfl, hw⟩; have hw := hw.symm; subst hw)
    go_ret
    exact ⟨Z, rs, qs, none, 0, 0, [], rfl, hB, hO, OwW.nil _ _, (fun x hx => absurd hx (ofr_nil x)), Fz.refl _ _⟩
  | true =>
    rw [hk] at hZ
    have hkk := kwB_ok hk
    by_cases h100 : d.Q.length < 100
    · have e1 : axV d D = ⟨d.cr, d.nx, d.ah, d.ti, d.pa, d.tr, d.li, d.si, d.pu, d.hl, d.S, d.Q ++ [D]⟩ := by unfold axV axO; rw [hl, hk, decide_eq_true h100]; rfl
      have e2 : axE d D = 0 := by unfold axE; rw [hl, hk, if_pos rfl, if_pos h100]
      rw [e1, e2]
      clear e1 e2 hk
      obtain ⟨b, off, rfl, hbw, _⟩ := hR.at' (by omega)
      obtain ⟨i0, hi, hz0, hz1, hz2⟩ := info_parts Try.info_rw
      have kC := fun ww (h : Rd ww (some ⟨b, off, none⟩) n c D) => pclone_any b off n c D ww h (by omega) (by omega)
      have n100 : ((Z.qn : Int) == 100) = false := by simp; omega
      have U1 := hO.q.o
      have ub := U1.box hB (by decide)
      go_enter Try.func17, Try.ntmps17
      go_wp2_with (go_at_call 18; refine hZ.mono ?_; rintro e w1 ⟨rfl, hw⟩; have hw := hw.symm; subst hw)
      go_region_law (first
        | (go_simp; go_at_call 19; refine (kC _ (hR.keep (grown_drew wz none))).mono ?_; rintro e w2 ⟨g2', c2, rfl, hA2, g2⟩; have g12 := grown_trans (grown_drew wz none) g2; have B2 := hB.keep g12 (by simp); have U2 := U1.keep g12; obtain ⟨k0, k1, k2, k3, k4, k5, k6, k7, k8, k9, k10, k11, k12⟩ := B2.cell13; have gA := World.grownBy_alloc w2 (.cells #[.slice (some ⟨g2', 0, none⟩) n c2] 29) none; have m4 := (B2.keep gA (by simp)).cell13.2.2.2.2.1)
        | (refine step_apS _ rfl _ _ 23 29 i0 Go.Proofs.Ytlfacjpehhcdiaa.zr 1 24 Try.underlying23 hi hz0 hz1 hz2 rfl (by decide) rfl (.slice Z.qa Z.qn Z.qc) Z.qn (flatR qs) rfl (U2.own.alloc _) ⟨w2.heap.size, 0, none⟩ 1 1 [.slice (some ⟨g2', 0, none⟩) n c2] rfl rfl (one_row w2 _) (by simp [Value.oneCell']) (by decide) (by unfold maxLen; omega) (by omega) ?_; intro gx cx w3 hgx g3 hown3; have B3 := (B2.keep gA (by simp)).keep g3 (fun e => ub e.symm); have f3 := B3.free 4; have p4 := B3.cell13.2.2.2.2.1))
      all_goals
        have BS : BxS _ g 57 #[.int .i64 d.cr, .int .i64 d.nx, .int .i64 d.ah, .slice Z.sa Z.sn Z.sc, .slice (some ⟨gx, 0, none⟩) (Z.qn + 1) cx, .int .i64 d.ti, .int .i64 d.pa, .int .i64 d.tr, .int .i64 d.li, .int .i64 d.si, .int .i64 d.pu, .int .i64 d.hl, .slice none 0 0] := B3.set 4 (.slice (some ⟨gx, 0, none⟩) (Z.qn + 1) cx)
        have gS := grown_set w3 g 4 (.slice (some ⟨gx, 0, none⟩) (Z.qn + 1) cx)
        have hz : wz.heap.size ≤ w2.heap.size := g12.size
        have hzd : wz.drew.heap.size = wz.heap.size := rfl
        have hUA := U2.keep gA
        have hrA := (hA2.wide (show lo ≤ wz.drew.heap.size by omega)).keep gA
        have hap : ∀ q, q ∈ qs → ∀ y, q.v.ownBlock = some y → (Rw.mk (some ⟨g2', 0, none⟩) n c2 D).v.ownBlock ≠ some y := by
          intro q hq y hy e
          have h1 : wz.heap.size ≤ y := hA2.new y e
          have h2 := U1.bef.2 q hq y hy
          omega
        have hpu := OwR.push (r := ⟨some ⟨g2', 0, none⟩, n, c2, D⟩) hUA hrA hap g3 hown3 (by
          rcases hgx with h | h
          · exact .inl h
          · exact .inr (by have := gA.size; omega))
        have FS : Fz (fun i => i = g) w3 (w3.setCell ⟨g, 4, none⟩ (.slice (some ⟨gx, 0, none⟩) (Z.qn + 1) cx)) := (Fz.refl _ w3).step gS (fun q e _ => by cases e; rfl)
        have hfin := hpu.fz FS (fun x hx e => by
          subst e
          rcases hx with h | ⟨r, hr, h⟩
          · exact hpu.box B3 (by decide) h
          · exact (hpu.each r hr).box B3 (by decide) h)
        have hS2 := ((hO.s.keep g12).keep gA).fz (fz_of2 g3) (fun x hx e => hO.ap x hx (.inl e))
        have hS3 := hS2.fz FS (fun x hx e => by subst e; exact box_ofrC hS2 B3 _ hx rfl)
        have hgA := gA.size
        have hap2 : ∀ x, Ofr (.slice Z.sa Z.sn Z.sc) rs x → ¬ Ofr (.slice (some ⟨gx, 0, none⟩) (Z.qn + 1) cx) (qs ++ [⟨some ⟨g2', 0, none⟩, n, c2, D⟩]) x := by
          intro x hx hx2
          have hxl := hO.s.hi x hx
          rcases hx2 with h | ⟨r, hr, h⟩
          · have h : gx = x := Option.some.inj h
            rcases hgx with h' | h'
            · exact hO.ap x hx (.inl (by rw [h', h]))
            · omega
          · rcases List.mem_append.1 hr with hr | hr
            · exact hO.ap x hx (.inr ⟨r, hr, h⟩)
            · have hr := List.mem_singleton.1 hr
              subst hr
              have h1 : wz.heap.size ≤ x := hA2.new x h
              omega
        have FF : Fz (fun i => lo ≤ i) wz (w3.setCell ⟨g, 4, none⟩ (.slice (some ⟨gx, 0, none⟩) (Z.qn + 1) cx)) :=
          (((Fz.refl _ wz).step (grown_trans g12 gA) (fun q e _ => by cases e)).step g3 (fun q e _ => hO.q.o.new q e)).step gS (fun q e _ => by cases e; exact hlo)
        have eD : (qs ++ [(⟨some ⟨g2', 0, none⟩, n, c2, D⟩ : Rw)]).map Rw.D = d.Q ++ [D] := by rw [List.map_append, hO.q.d]; rfl
        go_wp2
        go_ret
        exact ⟨⟨Z.sa, Z.sn, Z.sc, some ⟨gx, 0, none⟩, Z.qn + 1, cx⟩, rs, qs ++ [⟨some ⟨g2', 0, none⟩, n, c2, D⟩], none, 0, 0, [], rfl, BS, ⟨hS3, ⟨hfin, eD⟩, hap2⟩, OwW.nil _ _, (fun x hx => absurd hx (ofr_nil x)), FF⟩
    · have e1 : axV d D = d := by unfold axV axO; rw [decide_eq_false h100, Bool.and_false]; rfl
      have e2 : axE d D = 12 := by unfold axE; rw [hl, hk, if_pos rfl, if_neg h100]
      rw [e1, e2]
      have n100 : ((Z.qn : Int) == 100) = true := by simp; omega
      clear e1 e2 hk
      go_enter Try.func17, Try.ntmps17
      go_wp2_with (go_at_call 18; refine hZ.mono ?_; rintro e w1 ⟨rfl, hw⟩; have hw := hw.symm; subst hw)
      go_ret
      exact ⟨Z, rs, qs, none, 0, 0, [], rfl, hB, hO, OwW.nil _ _, (fun x hx => absurd hx (ofr_nil x)), Fz.refl _ _⟩
end
end Go.Proofs.Ytlfacjpehhcdiaa
