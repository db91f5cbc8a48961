import Derived.Test.YtaigcjhachkmmaaDoorYRl
import Derived.Test.YtaigcjhachkmmaaDoorYTa
import Derived.Test.YtaigcjhachkmmaaDoorYOp
namespace Go.Proofs.YtaigcjhachkmmaaDoor
open Go.RowKit
set_option maxRecDepth 100000
set_option linter.unusedVariables false
set_option linter.unusedSimpArgs false
/-- what 'hide' is to answer -/
def HideOk : Prop := ∀ (a bo : Option Addr) (cap c n cb : Nat) (S : List Int) (W : Nat → Nat) (B : List Nat) (w : World), Lin w → RdI w a 8 cap S → (∀ i, i < 8 → nthI S i = (W i : Int) ∧ W i < 4294967296) → c < 281474976710656 → Rd w bo n cb B → n ≤ 1000 →
  Calls Tryd.prog 29 #[.slice a 8 cap, .int .i64 c, .slice bo n cb] w fun e w' => ∃ a' c', e = .returned (.slice a' n c') ∧ Ans w' w.heap.size a' n c' (cvL W c B) ∧ w.grownBy w' none
theorem beT_one (i : Nat) (h : i < 256) : beT 1 i 1 = [i] := by
  show [i / 2 ^ ((1 - 1 - 0) * 8) % 256] = [i]
  rw [show (1 - 1 - 0) * 8 = 0 by rfl, Nat.pow_zero, Nat.div_one, Nat.mod_eq_of_lt h]
theorem seal_bad (id : Int) (a bo : Option Addr) (n cap m cb : Nat) (top seen z : Int) (S : List Int) (w : World) (hp : RdI w a n cap S) (hk : kmB id n S top seen = false) :
    Calls Tryd.prog 14 #[kyV id a n cap top seen, .int .i64 z, .slice bo m cb] w fun e w' => e = .returned (.tuple #[.slice none 0 0, .int .i64 11]) ∧ w.grownBy w' none := by
  have gA := World.grownBy_alloc w (.cells #[.int .i64 id, .slice a n cap, .int .i64 top, .int .i64 seen] 36) none
  have hM := keyMayBe_any id a n cap top seen S _ (hp.keep gA)
  rw [hk] at hM
  go_enter Tryd.func14, Tryd.ntmps14
  go_wp2_with (go_at_call 33; refine hM.mono ?_; rintro e w1 ⟨rfl, g1⟩)
  go_ret2
  exact ⟨rfl, grown_trans gA g1⟩
theorem seal_range (id : Int) (a bo : Option Addr) (n cap m cb : Nat) (top seen z : Int) (S : List Int) (w : World) (hp : RdI w a n cap S) (hk : kmB id n S top seen = true) (hz : kwB z 0 281474976710655 = false) :
    Calls Tryd.prog 14 #[kyV id a n cap top seen, .int .i64 z, .slice bo m cb] w fun e w' => e = .returned (.tuple #[.slice none 0 0, .int .i64 2]) ∧ w.grownBy w' none := by
  have gA := World.grownBy_alloc w (.cells #[.int .i64 id, .slice a n cap, .int .i64 top, .int .i64 seen] 36) none
  have hM := keyMayBe_any id a n cap top seen S _ (hp.keep gA)
  rw [hk] at hM
  go_enter Tryd.func14, Tryd.ntmps14
  go_wp2_with (first
    | (go_at_call 33; refine hM.mono ?_; rintro e w1 ⟨rfl, g1⟩)
    | (go_at_call 22; refine (ywithin_any z 0 281474976710655 _).mono ?_; rintro e w' ⟨rfl, hw⟩; have hw := hw.symm; subst hw; rw [hz]))
  go_ret2
  exact ⟨rfl, grown_trans gA g1⟩
theorem seal_long (id : Int) (a bo : Option Addr) (n cap m cb : Nat) (top seen z : Int) (S : List Int) (w : World) (hp : RdI w a n cap S) (hk : kmB id n S top seen = true) (hz : kwB z 0 281474976710655 = true) (B : List Nat) (hb : Rd w bo m cb B) (hm : 1000 < m) :
    Calls Tryd.prog 14 #[kyV id a n cap top seen, .int .i64 z, .slice bo m cb] w fun e w' => e = .returned (.tuple #[.slice none 0 0, .int .i64 1]) ∧ w.grownBy w' none := by
  have gA := World.grownBy_alloc w (.cells #[.int .i64 id, .slice a n cap, .int .i64 top, .int .i64 seen] 36) none
  have hM := keyMayBe_any id a n cap top seen S _ (hp.keep gA)
  rw [hk] at hM
  have q1 := hb.le; have q2 := hb.max
  unfold maxLen at q2
  have hmi : (m : Int) > 1000 := by omega
  go_enter Tryd.func14, Tryd.ntmps14
  go_wp2_with (first
    | (go_at_call 33; refine hM.mono ?_; rintro e w1 ⟨rfl, g1⟩)
    | (go_at_call 22; refine (ywithin_any z 0 281474976710655 _).mono ?_; rintro e w' ⟨rfl, hw⟩; have hw := hw.symm; subst hw; rw [hz]))
  go_ret2
  exact ⟨rfl, grown_trans gA g1⟩
set_option maxHeartbeats 8000000 in
theorem seal_ok (HD : HideOk) (i : Nat) (a bo : Option Addr) (cap m cb c : Nat) (top seen : Int) (S : List Int) (W : Nat → Nat) (B : List Nat) (w : World) (hL : Lin w) (hp : RdI w a 8 cap S) (hk : kmB i 8 S top seen = true)
    (hi : i ≤ 255) (hW : ∀ i, i < 8 → nthI S i = (W i : Int) ∧ W i < 4294967296) (hc : c < 281474976710656) (hz : kwB c 0 281474976710655 = true) (hb : Rd w bo m cb B) (hm : m ≤ 1000) :
    Calls Tryd.prog 14 #[kyV i a 8 cap top seen, .int .i64 c, .slice bo m cb] w fun e w' => ∃ a' c', e = .returned (.tuple #[.slice a' (m + 15) c', .int .i64 0]) ∧ Ans w' w.heap.size a' (m + 15) c' (slL W c i B) ∧ w.grownBy w' none := by
  have gA := World.grownBy_alloc w (.cells #[.int .i64 (i : Nat), .slice a 8 cap, .int .i64 top, .int .i64 seen] 36) none
  have bx := heap_alloc_new w (.cells #[.int .i64 (i : Nat), .slice a 8 cap, .int .i64 top, .int .i64 seen] 36)
  have hM := keyMayBe_any i a 8 cap top seen S _ (hp.keep gA)
  rw [hk] at hM
  have hmi : ¬ (m : Int) > 1000 := by omega
  have hBl := hb.len
  have hsb : (w.alloc (.cells #[.int .i64 (i : Nat), .slice a 8 cap, .int .i64 top, .int .i64 seen] 36)).heap.size = w.heap.size + 1 := by simp
  obtain ⟨wb, hwb⟩ : ∃ wb, wb = w.alloc (.cells #[.int .i64 (i : Nat), .slice a 8 cap, .int .i64 top, .int .i64 seen] 36) := ⟨_, rfl⟩
  rw [← hwb] at gA bx hsb
  have HWB : Hid (wb = w.alloc (.cells #[.int .i64 (i : Nat), .slice a 8 cap, .int .i64 top, .int .i64 seen] 36)) := hwb
  have GWB : ∀ w', (w.alloc (.cells #[.int .i64 (i : Nat), .slice a 8 cap, .int .i64 top, .int .i64 seen] 36)).grownBy w' none → wb.grownBy w' none := fun w' h => by rw [hwb]; exact h
  have hcell : ∀ w', wb.grownBy w' none → w'.cell? ⟨w.heap.size, 0, none⟩ = some (.int .i64 (i : Nat)) ∧ w'.cell? ⟨w.heap.size, 1, none⟩ = some (.slice a 8 cap) := fun w' h => by
    have hbx : w'.heap[w.heap.size]? = _ := (h.block w.heap.size (by omega) (by simp)).trans bx
    exact ⟨by rw [cell_of_row _ _ _ _ _ _ hbx]; rfl, by rw [cell_of_row _ _ _ _ _ _ hbx]; rfl⟩
  clear hk hwb
  have t1 : True := trivial
  go_enter Tryd.func14, Tryd.ntmps14
  go_wp2_with (first
    | (go_at_call 33; refine hM.mono ?_; rintro e w1 ⟨rfl, g1'⟩; have g1 := GWB _ g1'; obtain ⟨c10, c11⟩ := hcell w1 g1; have hP1 := put_any wb wb.heap.size none 0 0 i 1 [] w1 (ans_nil _ _) (Nat.le_refl _) g1.size g1 (by omega) (by decide) (by decide))
    | (go_at_call 22; refine (ywithin_any c 0 281474976710655 _).mono ?_; rintro e w' ⟨rfl, hw⟩; have hw := hw.symm; subst hw; rw [hz])
    | (go_at_call 34; have _t := t1; clear t1; refine hP1.mono ?_; rintro e w2 ⟨a2, c2, rfl, hA2, g2⟩; obtain ⟨c20, c21⟩ := hcell w2 g2; have hP2 := put_any wb wb.heap.size a2 _ c2 c 6 _ w2 hA2 (Nat.le_refl _) g2.size g2 (by omega) (by decide) (by decide); have t2 : True := trivial)
    | (go_at_call 34; have _t := t2; clear t2; refine hP2.mono ?_; rintro e w3 ⟨a3, c3, rfl, hA3, g3⟩; obtain ⟨c30, c31⟩ := hcell w3 g3; have G3 := grown_trans gA g3; have hH := HD a bo cap c m cb S W B w3 (hL.keep G3) (hp.keep G3) hW hc (hb.keep G3) hm; have t3 : True := trivial)
    | (go_at_call 29; refine hH.mono ?_; rintro e w4 ⟨a4, c4, rfl, hA4, g4⟩; have hA34 := hA3.keep g4; have G4 := grown_trans g3 g4; have hs4 := G4.size)
    | (at_builtin; have _t := t3; clear t3; refine wpList_joinA wb w4 wb.heap.size rfl _ _ rfl a3 _ c3 _ rfl hA34 (by decide) (Nat.le_refl _) hs4 G4 a4 m c4 _ rfl hA4.rd (by omega) ?_; intro a5 c5 w5 hA5 G5 gr5; obtain ⟨c50, c51⟩ := hcell w5 G5; have G05 := grown_trans gA G5; have hT := tagOf_any a a5 cap c (7 + m) c5 S W _ w5 (hL.keep G05) (hp.keep G05) hW hc hA5.rd (by omega); have t4 : True := trivial)
    | (go_at_call 26; refine hT.mono ?_; rintro e w6 ⟨a6, c6, rfl, hA6, g6⟩; have hA56 := hA5.keep g6; have G6 := grown_trans G5 g6; have hs6 := G6.size)
    | (at_builtin; have _t := t4; clear t4; refine wpList_joinA wb w6 wb.heap.size rfl _ _ rfl a5 (7 + m) c5 _ rfl hA56 (by omega) (Nat.le_refl _) hs6 G6 a6 8 c6 _ rfl hA6.rd (by omega) ?_; intro a7 c7 w7 hA7 G7 gr7))
  have eL : (([] ++ beT 1 i 1) ++ beT 6 c 6) ++ cvL W c B = slH W c i B := by rw [List.nil_append, beT_one i (by omega)]; rfl
  rw [eL] at hA7
  go_ret2
  refine ⟨a7, c7, ?_, ?_, grown_trans gA G7⟩
  · rw [show m + 15 = 7 + m + 8 by omega]; rfl
  · rw [show m + 15 = 7 + m + 8 by omega]
    exact ⟨hA7.own, hA7.byte, fun g h => by have := hA7.new g h; omega⟩
set_option maxHeartbeats 1000000 in
theorem sameKey_any (id : Int) (a b : Option Addr) (n cap cap' : Nat) (top seen : Int) (S : List Int) (w : World) (ha : RdI w a n cap S) (hb : RdI w b n cap' S) :
    Calls Tryd.prog 45 #[kyV id a n cap top seen, kyV id b n cap' top seen] w fun e w' => e = .returned (.bool true) ∧ w.grownBy w' none := by
  have gA := grown_trans (World.grownBy_alloc w (.cells #[.int .i64 id, .slice a n cap, .int .i64 top, .int .i64 seen] 36) none) (World.grownBy_alloc _ (.cells #[.int .i64 id, .slice b n cap', .int .i64 top, .int .i64 seen] 36) none)
  have hS := sameInts_any a b n n cap cap' S _ (ha.keep gA) (hb.keep gA)
  have bx0 : ((w.alloc (.cells #[.int .i64 id, .slice a n cap, .int .i64 top, .int .i64 seen] 36)).alloc (.cells #[.int .i64 id, .slice b n cap', .int .i64 top, .int .i64 seen] 36)).heap[w.heap.size]? = some (.cells #[.int .i64 id, .slice a n cap, .int .i64 top, .int .i64 seen] 36) := by
    rw [(World.grownBy_alloc (w.alloc _) _ none).block w.heap.size (by simp) (by simp)]; exact heap_alloc_new w _
  have bx1 : ((w.alloc (.cells #[.int .i64 id, .slice a n cap, .int .i64 top, .int .i64 seen] 36)).alloc (.cells #[.int .i64 id, .slice b n cap', .int .i64 top, .int .i64 seen] 36)).heap[w.heap.size + 1]? = some (.cells #[.int .i64 id, .slice b n cap', .int .i64 top, .int .i64 seen] 36) := by
    have := heap_alloc_new (w.alloc (.cells #[.int .i64 id, .slice a n cap, .int .i64 top, .int .i64 seen] 36)) (.cells #[.int .i64 id, .slice b n cap', .int .i64 top, .int .i64 seen] 36)
    simpa using this
  go_enter Tryd.func45, Tryd.ntmps45
  go_wp2_with (go_at_call 61; refine hS.mono ?_; rintro e w3 ⟨rfl, g3⟩; have hx0 : w3.heap[w.heap.size]? = _ := (g3.block _ (by simp; omega) (by simp)).trans bx0; have hx1 : w3.heap[w.heap.size + 1]? = _ := (g3.block _ (by simp) (by simp)).trans bx1; have k02 : w3.cell? ⟨w.heap.size, 2, none⟩ = some (.int .i64 top) := (by rw [cell_of_row _ _ _ _ _ _ hx0]; rfl); have k03 : w3.cell? ⟨w.heap.size, 3, none⟩ = some (.int .i64 seen) := (by rw [cell_of_row _ _ _ _ _ _ hx0]; rfl); have k12 : w3.cell? ⟨w.heap.size + 1, 2, none⟩ = some (.int .i64 top) := (by rw [cell_of_row _ _ _ _ _ _ hx1]; rfl); have k13 : w3.cell? ⟨w.heap.size + 1, 3, none⟩ = some (.int .i64 seen) := (by rw [cell_of_row _ _ _ _ _ _ hx1]; rfl))
  go_ret
  exact ⟨rfl, grown_trans gA g3⟩
/-- a key, as it comes -/
theorem shown_key {w : World} {full : Bool} {k : Nat} {v : Value} (h : (Sh.fcons 1 (.int .i64) (.fcons 1 (.slice 1 8 (.int .i64)) (.fcons 1 (.int .i64) (.fcons 1 (.int .i64) .fend)))).shown w full v k) :
    ∃ id a n cap top seen S, v = kyV id a n cap top seen ∧ RdI w a n cap S ∧ (full = true → cap ≤ 17592186043904) ∧ (-9223372036854775808 ≤ id ∧ id ≤ 9223372036854775807) ∧ (-9223372036854775808 ≤ top ∧ top ≤ 9223372036854775807) ∧ (-9223372036854775808 ≤ seen ∧ seen ≤ 9223372036854775807) := by
  obtain ⟨cs, rfl, hm⟩ := h
  obtain ⟨n0, m0, rfl, ⟨_, id, e0, k0⟩, n1, m1, rfl, h1, n2, m2, rfl, ⟨_, top, e2, k2⟩, n3, m3, rfl, ⟨_, seen, e3, k3⟩, e4, _⟩ := hm
  obtain ⟨a, n, cap, S, e1, hR, hb, hf, hn⟩ := met_nums h1
  refine ⟨id, a, n, cap, top, seen, S, ?_, hR, hf, bounds_i64 k0, bounds_i64 k2, bounds_i64 k3⟩
  unfold kyV
  congr 1
  apply Array.toList_inj.1
  generalize cs.toList = l at *
  match l with
  | [] => simp at e0
  | [_] => simp at e1
  | [_, _] => simp at e2
  | [_, _, _] => simp at e3
  | [x0, x1, x2, x3] => simp_all
  | x0 :: x1 :: x2 :: x3 :: x4 :: r => simp at e4
end Go.Proofs.YtaigcjhachkmmaaDoor
