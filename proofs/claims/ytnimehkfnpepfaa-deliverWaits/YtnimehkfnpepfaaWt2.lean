import Derived.Deep.RegionLawGrows
import Derived.Test.YtnimehkfnpepfaaWt1
import Derived.Deep.WholeRow
import Derived.Laws.ResultCell
import Derived.Laws.AppendOwnNone
import Derived.Test.YtnimehkfnpepfaaWt0
import Derived.Lib.AppendStr
import Derived.BigFrame
import Derived.Test.YtnimehkfnpepfaaProg
import Derived.WalkKit
import Derived.Deep.RegionHeld3
import Derived.Lib.AppendZerosOnto
namespace Go.Proofs.Ytnimehkfnpepfaa
open Go.RowKit
set_option maxRecDepth 100000
set_option linter.unusedVariables false
set_option linter.unusedSimpArgs false

section
theorem Try.info_n : (Try.prog.info? 3).map (fun i => (i.zero, i.size, i.bytes)) = some (some (.int .i64 0), 1, 8) := by kernel_rfl
theorem plain_i64 : Try.prog.plainKey 3 = true := by kernel_rfl
theorem cells_i64 : Try.prog.cellsOf 3 = 1 := by kernel_rfl
theorem eq_i64 (d : Nat) (x y : Int) (w : World) : (Op.equalIn (d + 1) 3 (.int .i64 x) (.int .i64 y)).run Try.prog w = .ok (x == y) w := run_equalIn_int w d 3 .i64 .i64 x y Try.underlying3
theorem items_i64 (d : Nat) (xs ys : List Int) (is : List Nat) (w : World) (hx : ∀ i ∈ is, i < xs.length) (hy : ∀ i ∈ is, i < ys.length) :
    (Op.eqItems (d + 1) 3 1 (xs.map (Value.int .i64 ·)).toArray (ys.map (Value.int .i64 ·)).toArray is).run Try.prog w = .ok (is.all fun i => xs.getD i 0 == ys.getD i 0) w := by
  induction is with
  | nil => simp [Op.eqItems]
  | cons i is ih =>
    have h1 := hx i (by simp)
    have h2 := hy i (by simp)
    have p1 := run_part_plain w plain_i64 (xs := (xs.map (Value.int .i64 ·)).toArray) (off := i * 1) (v := .int .i64 (xs.getD i 0)) (by simp [h1])
    have p2 := run_part_plain w plain_i64 (xs := (ys.map (Value.int .i64 ·)).toArray) (off := i * 1) (v := .int .i64 (ys.getD i 0)) (by simp [h2])
    simp only [Op.eqItems, Sem.run_bind, p1, p2, Result.andThen_ok, eq_i64]
    rw [List.all_cons]
    cases hb : (xs.getD i 0 == ys.getD i 0) with
    | false => simp
    | true => simpa using ih (fun j hj => hx j (by simp [hj])) (fun j hj => hy j (by simp [hj]))
/-- arrays of numbers compared -/
theorem arr_i64 {t : TypeId} {n : Nat} (hu : Try.prog.underlying t = some (.array n 3)) (xs ys : List Int) (hx : xs.length = n) (hy : ys.length = n) (w : World) :
    (Op.equalIn 10000 t (.agg (xs.map (Value.int .i64 ·)).toArray) (.agg (ys.map (Value.int .i64 ·)).toArray)).run Try.prog w = .ok ((List.range n).all fun i => xs.getD i 0 == ys.getD i 0) w := by
  obtain ⟨i0, hi, _⟩ := info_parts Try.info_n
  rw [run_equalIn_array w 9999 _ _ hu hi, cells_i64]
  exact items_i64 9998 xs ys _ w (fun i h => by rw [hx]; exact List.mem_range.1 h) (fun i h => by rw [hy]; exact List.mem_range.1 h)
/-- pairs compared -/
theorem arr2_i64 (x x' y y' : Int) (w : World) : (Op.equalIn 10000 82 (.agg #[.int .i64 x, .int .i64 x']) (.agg #[.int .i64 y, .int .i64 y'])).run Try.prog w = .ok (x == y && x' == y') w :=
  (arr_i64 Try.underlying82 [x, x'] [y, y'] rfl rfl w).trans (by congr 1; simp [List.range_succ])
/-- a slice of pairs of numbers as it is read -/
structure RdG (w : World) (a : Option Addr) (n cap : Nat) (F : Nat → Int × Int) : Prop where
  le : n ≤ cap
  max : cap ≤ maxLen
  nil : a = none → cap = 0
  at' : 0 < n → ∃ b off, a = some ⟨b, off, none⟩ ∧ b < w.heap.size ∧ ∀ i, i < n → w.cell? ⟨b, off + i * 2, none⟩ = some (.int .i64 (F i).1) ∧ w.cell? ⟨b, off + i * 2 + 1, none⟩ = some (.int .i64 (F i).2)
theorem RdG.grown {w w' : World} {a : Option Addr} {n cap : Nat} {F : Nat → Int × Int} {r : Option Nat} (h : RdG w a n cap F) (hg : w.grownBy w' r) (hne : ∀ b off, a = some ⟨b, off, none⟩ → some b ≠ r) : RdG w' a n cap F :=
  ⟨h.le, h.max, h.nil, fun h0 => by
    obtain ⟨b, off, e, hb, hc⟩ := h.at' h0
    refine ⟨b, off, e, Nat.lt_of_lt_of_le hb hg.size, fun i hi => ?_⟩
    have := hc i hi
    unfold World.cell? at this ⊢
    rw [hg.block b hb (hne b off e)]
    exact this⟩
theorem RdG.keep {w w' : World} {a : Option Addr} {n cap : Nat} {F : Nat → Int × Int} (h : RdG w a n cap F) (hg : w.grownBy w' none) : RdG w' a n cap F := h.grown hg (fun _ _ _ => by simp)
theorem RdG.nil0 (w : World) (F : Nat → Int × Int) : RdG w none 0 0 F := ⟨Nat.le_refl _, Nat.zero_le _, fun _ => rfl, fun h => absurd h (by decide)⟩
set_option maxHeartbeats 4000000 in
theorem sameGaps_any (a b : Option Addr) (n cap cap' : Nat) (F F' : Nat → Int × Int) (w : World) (h : RdG w a n cap F) (k : RdG w b n cap' F') (he : ∀ i, i < n → F i = F' i) :
    Calls Try.prog 52 #[.slice a n cap, .slice b n cap'] w fun e w' => e = .returned (.bool true) ∧ w.grownBy w' none := by
  have hm := h.max
  have hle := h.le
  have hml : maxLen ≤ 9223372036854775807 := by decide
  go_enter Try.func52, Try.ntmps52
  go_wp2
  go_loopw [5] (fun i wr => ∃ k : Nat, k ≤ n ∧ i = .int .i64 k ∧ w.grownBy wr none) (fun i _ => n - (intOf i).toNat)
  case atStart => exact ⟨0, by omega, rfl, World.grownBy.refl _ _⟩
  case round =>
    obtain ⟨j, hj, rfl, hg⟩ := hrel
    by_cases hlt : j < n
    · have hlt' : (j : Int) < (n : Int) := by omega
      obtain ⟨b1, o1, rfl, _, c1⟩ := (h.keep hg).at' (by omega)
      obtain ⟨b2, o2, rfl, _, c2⟩ := (k.keep hg).at' (by omega)
      obtain ⟨x1, x2⟩ := c1 j hlt
      obtain ⟨y1, y2⟩ := c2 j hlt
      rw [← he j hlt] at y1 y2
      clear c1 c2 h k he
      have hj0 : (0 : Int) ≤ (j : Int) := by omega
      have ha := fun wz => arr2_i64 (F j).1 (F j).2 (F j).1 (F j).2 wz
      simp only [beq_self_eq_true, Bool.and_self] at ha
      go_wp2
      go_region_law
      all_goals (try go_simp)
      all_goals go_wp2
      all_goals exact ⟨⟨j + 1, by omega, rfl, grown_trans hg (grown_drew _ _)⟩, by simp only [intOf]; omega⟩
    · have hlt' : ¬ (j : Int) < (n : Int) := by omega
      go_wp2
      go_ret
      exact ⟨rfl, hg⟩
end

section
/-- a gap within so many bytes, or both are nought -/
def spB (x y n : Int) : Bool := decide (0 ≤ x ∧ x < y ∧ y ≤ n)
theorem ret_bool {x y : Bool} (h : x = y) : Ending.returned (.bool x) = Ending.returned (.bool y) := by rw [h]
theorem spanMay_any (x y n : Int) (w : World) : Calls Try.prog 112 #[.agg #[.int .i64 x, .int .i64 y], .int .i64 n] w fun e w' => e = .returned (.bool (spB x y n)) ∧ w.grownBy w' none := by
  have g0 := World.grownBy_alloc w (.cells #[.int .i64 x, .int .i64 y] 82) none
  go_enter Try.func112, Try.ntmps112
  go_wp2
  all_goals
    go_ret
    refine ⟨ret_bool ?_, g0⟩
    rw [Bool.eq_iff_iff]
    simp [spB]
    omega
theorem Try.info_sp : (Try.prog.info? 82).map (fun i => i.size) = some 2 := by kernel_rfl
theorem BxS.cell2 {w : World} {g : Nat} {t : TypeId} {a0 a1 : Value} (k : BxS w g t #[a0, a1]) : w.cell? ⟨g, 0, none⟩ = some a0 ∧ w.cell? ⟨g, 1, none⟩ = some a1 := by
  simp [World.cell?, show w.heap[g]? = _ from k]
/-- a note's cells -/
def ntA (kd id : Int) (nm : ByteArray) (si su at' : Int) (da ga : Value) (o co : Int) : Array Value := #[.int .i64 kd, .int .i64 id, .string nm, .int .i64 si, .int .i64 su, .int .i64 at', da, ga, .int .i64 o, .int .i64 co]
theorem BxS.cell10 {w : World} {g : Nat} {t : TypeId} {a0 a1 a2 a3 a4 a5 a6 a7 a8 a9 : Value} (k : BxS w g t #[a0, a1, a2, a3, a4, a5, a6, a7, a8, a9]) : w.cell? ⟨g, 0, none⟩ = some a0 ∧ w.cell? ⟨g, 1, none⟩ = some a1 ∧ w.cell? ⟨g, 2, none⟩ = some a2 ∧ w.cell? ⟨g, 3, none⟩ = some a3 ∧ w.cell? ⟨g, 4, none⟩ = some a4 ∧ w.cell? ⟨g, 5, none⟩ = some a5 ∧ w.cell? ⟨g, 6, none⟩ = some a6 ∧ w.cell? ⟨g, 7, none⟩ = some a7 ∧ w.cell? ⟨g, 8, none⟩ = some a8 ∧ w.cell? ⟨g, 9, none⟩ = some a9 := by
  simp [World.cell?, show w.heap[g]? = _ from k]
end

section
/-! slices of numbers as they are read -/
def nthI (S : List Int) (i : Nat) : Int := S.getD i 0
structure RdI (w : World) (a : Option Addr) (n cap : Nat) (S : List Int) : Prop where
  len : S.length = n
  le : n ≤ cap
  max : cap ≤ maxLen
  nil : a = none → cap = 0
  at' : 0 < n → ∃ b off, a = some ⟨b, off, none⟩ ∧ b < w.heap.size ∧ ∀ i, i < n → w.cell? ⟨b, off + i, none⟩ = some (.int .i64 (nthI S i))
theorem RdI.grown {w w' : World} {a : Option Addr} {n cap : Nat} {S : List Int} {r : Option Nat} (h : RdI w a n cap S) (hg : w.grownBy w' r) (hne : ∀ b off, a = some ⟨b, off, none⟩ → some b ≠ r) : RdI w' a n cap S := by
  refine ⟨h.len, h.le, h.max, h.nil, fun h0 => ?_⟩
  obtain ⟨b, off, rfl, hb, hc⟩ := h.at' h0
  refine ⟨b, off, rfl, Nat.lt_of_lt_of_le hb hg.size, fun i hi => ?_⟩
  exact (World.cell?_of_block (w := w) (hg.block b hb (hne b off rfl))).trans (hc i hi)
theorem RdI.keep {w w' : World} {a : Option Addr} {n cap : Nat} {S : List Int} (h : RdI w a n cap S) (hg : w.grownBy w' none) : RdI w' a n cap S := h.grown hg (fun _ _ _ => by simp)
/-! rows of numbers that grow -/
def zys (L : List Int) : List Value := L.map fun n => Value.int .i64 n
theorem zys_length (L : List Int) : (zys L).length = L.length := by simp [zys]
theorem zys_at (L : List Int) (i : Nat) (hi : i < L.length) : (zys L)[i]? = some (.int .i64 (nthI L i)) := by
  unfold zys nthI
  rw [List.getElem?_map, List.getElem?_eq_getElem hi, List.getD_eq_getElem?_getD, List.getElem?_eq_getElem hi]; rfl
/-- an answer of numbers, in memory from block lo on -/
structure AnsZ (w : World) (lo : Nat) (a : Option Addr) (n cap : Nat) (L : List Int) : Prop where
  own : w.ownsRow 0 3 1 (.slice a n cap) n (zys L)
  new : ∀ g, (Value.slice a n cap).ownBlock = some g → lo ≤ g
theorem AnsZ.len {w : World} {lo : Nat} {a : Option Addr} {n cap : Nat} {L : List Int} (h : AnsZ w lo a n cap L) : L.length = n := by
  have := h.own.1; rw [zys_length] at this; omega
theorem AnsZ.cases {w : World} {lo : Nat} {a : Option Addr} {n cap : Nat} {L : List Int} (h : AnsZ w lo a n cap L) :
    (a = none ∧ n = 0 ∧ cap = 0) ∨ ∃ g, a = some ⟨g, 0, none⟩ ∧ lo ≤ g ∧ g < w.heap.size := by
  rcases h.own.2 with ⟨h1, h2⟩ | ⟨g, cap', cur, h1, _, h3, _⟩
  · simp only [Value.slice.injEq] at h1; exact .inl h1
  · simp only [Value.slice.injEq] at h1
    obtain ⟨rfl, _, _⟩ := h1
    exact .inr ⟨g, rfl, h.new g rfl, (Array.getElem?_eq_some_iff.1 h3).1⟩
theorem AnsZ.max {w : World} {lo : Nat} {a : Option Addr} {n cap : Nat} {L : List Int} (h : AnsZ w lo a n cap L) : n ≤ cap ∧ cap ≤ maxLen := by
  rcases h.own.2 with ⟨h1, h2⟩ | ⟨g, cap', cur, h1, _, h3, h4, h5, _⟩
  · simp only [Value.slice.injEq] at h1; obtain ⟨_, h6, h7⟩ := h1; subst h6; subst h7; exact ⟨Nat.le_refl _, Nat.zero_le _⟩
  · simp only [Value.slice.injEq] at h1; obtain ⟨_, _, h7⟩ := h1; subst h7; exact ⟨h4, h5⟩
theorem AnsZ.rd {w : World} {lo : Nat} {a : Option Addr} {n cap : Nat} {L : List Int} (h : AnsZ w lo a n cap L) : RdI w a n cap L := by
  refine ⟨h.len, h.max.1, h.max.2, fun h0 => ?_, fun h0 => ?_⟩
  · rcases h.cases with ⟨_, _, h3⟩ | ⟨g, h1, _⟩
    · exact h3
    · rw [h0] at h1; cases h1
  · rcases h.cases with ⟨_, h2, _⟩ | ⟨g, rfl, _, hl⟩
    · omega
    · refine ⟨g, 0, rfl, hl, fun i hi => ?_⟩
      have hL := h.len
      rw [Nat.zero_add, h.own.cellAt i (by omega)]
      exact zys_at L i (by omega)
theorem AnsZ.kept {w w' : World} {lo : Nat} {a : Option Addr} {n cap : Nat} {L : List Int} {r : Option Nat} (h : AnsZ w lo a n cap L) (hg : w.grownBy w' r) (hne : (Value.slice a n cap).ownBlock = none ∨ (Value.slice a n cap).ownBlock ≠ r) : AnsZ w' lo a n cap L :=
  ⟨h.own.kept hg hne, h.new⟩
theorem AnsZ.keep {w w' : World} {lo : Nat} {a : Option Addr} {n cap : Nat} {L : List Int} (h : AnsZ w lo a n cap L) (hg : w.grownBy w' none) : AnsZ w' lo a n cap L :=
  h.kept hg (by cases (Value.slice a n cap).ownBlock <;> simp)
theorem AnsZ.lt {w : World} {lo : Nat} {a : Option Addr} {n cap : Nat} {L : List Int} (h : AnsZ w lo a n cap L) : ∀ g, (Value.slice a n cap).ownBlock = some g → g < w.heap.size := by
  intro g hg
  rcases h.cases with ⟨rfl, _, _⟩ | ⟨g', rfl, _, hl⟩
  · simp [Value.ownBlock] at hg
  · have : g' = g := by simpa [Value.ownBlock] using hg
    omega
end

section
theorem Ans.as {w : World} {lo : Nat} {a : Option Addr} {n cap : Nat} {L L' : List Nat} (h : Ans w lo a n cap L) (e : L = L') : Ans w lo a n cap L' := e ▸ h
end

section
set_option maxHeartbeats 16000000 in
theorem sameNote_any (kd id : Int) (nm : ByteArray) (si su at' o co : Int) (a a' q q' : Option Addr) (n c c' m d d' : Nat) (L : List Nat) (F F' : Nat → Int × Int) (w : World) (hL : Rd w a n c L) (hL' : Rd w a' n c' L) (hF : RdG w q m d F) (hF' : RdG w q' m d' F') (he : ∀ i, i < m → F i = F' i) :
    Calls Try.prog 15 #[.agg (ntA kd id nm si su at' (.slice a n c) (.slice q m d) o co), .agg (ntA kd id nm si su at' (.slice a' n c') (.slice q' m d') o co)] w fun e w' => e = .returned (.bool true) ∧ w.grownBy w' none := by
  unfold ntA
  have b0 := BxS.new w 27 #[.int .i64 kd, .int .i64 id, .string nm, .int .i64 si, .int .i64 su, .int .i64 at', .slice a n c, .slice q m d, .int .i64 o, .int .i64 co]
  have g0 := World.grownBy_alloc w (.cells #[.int .i64 kd, .int .i64 id, .string nm, .int .i64 si, .int .i64 su, .int .i64 at', .slice a n c, .slice q m d, .int .i64 o, .int .i64 co] 27) none
  generalize hw0 : w.alloc (.cells #[.int .i64 kd, .int .i64 id, .string nm, .int .i64 si, .int .i64 su, .int .i64 at', .slice a n c, .slice q m d, .int .i64 o, .int .i64 co] 27) = w0 at b0 g0
  have hz0 : w0.heap.size = w.heap.size + 1 := by rw [← hw0]; simp
  have b1 := BxS.new w0 27 #[.int .i64 kd, .int .i64 id, .string nm, .int .i64 si, .int .i64 su, .int .i64 at', .slice a' n c', .slice q' m d', .int .i64 o, .int .i64 co]
  have g1 := World.grownBy_alloc w0 (.cells #[.int .i64 kd, .int .i64 id, .string nm, .int .i64 si, .int .i64 su, .int .i64 at', .slice a' n c', .slice q' m d', .int .i64 o, .int .i64 co] 27) none
  generalize hw1 : w0.alloc (.cells #[.int .i64 kd, .int .i64 id, .string nm, .int .i64 si, .int .i64 su, .int .i64 at', .slice a' n c', .slice q' m d', .int .i64 o, .int .i64 co] 27) = w1 at b1 g1
  rw [hz0] at b1
  have b01 := b0.keep g1 (by simp)
  have G1 := grown_trans g0 g1
  obtain ⟨e0, e1, e2, e3, e4, e5, e6, e7, e8, e9⟩ := b01.cell10
  obtain ⟨d0, d1, d2, d3, d4, d5, d6, d7, d8, d9⟩ := b1.cell10
  have hB := fun wz (hz : w1.grownBy wz none) => sameBytes_any a a' n n c c' L wz ((hL.keep G1).keep hz) ((hL'.keep G1).keep hz)
  have hG := fun wz (hz : w1.grownBy wz none) => sameGaps_any q q' m d d' F F' wz ((hF.keep G1).keep hz) ((hF'.keep G1).keep hz) he
  clear b0 hL hL' hF hF' he
  go_enter Try.func15, Try.ntmps15
  go_wp2_with (first
    | (go_at_call 51; refine (hB _ (by first | exact World.grownBy.refl _ _ | exact g2)).mono ?_; rintro e w5 ⟨rfl, hw⟩; have hw := hw.symm; subst hw)
    | (go_at_call 52; refine (hG _ (World.grownBy.refl _ _)).mono ?_; rintro e w2 ⟨rfl, g2⟩; clear e0 d0 e1 d1 e2 d2 e3 d3 e4 d4 e5 d5 e6 d6 e7 d7 e8 d8 e9 d9; obtain ⟨e0, e1, e2, e3, e4, e5, e6, e7, e8, e9⟩ := (b01.keep g2 (by simp)).cell10; obtain ⟨d0, d1, d2, d3, d4, d5, d6, d7, d8, d9⟩ := (b1.keep g2 (by simp)).cell10))
  go_ret
  exact ⟨rfl, grown_trans G1 g2⟩
theorem Try.info_pr : (Try.prog.info? 82).map (fun i => (i.zero, i.size, i.bytes)) = some (some (.agg #[.int .i64 0, .int .i64 0]), 2, 16) := by kernel_rfl
/-- pairs as cells in a row -/
def flG (F : Nat → Int × Int) : Nat → List Value
  | 0 => []
  | k + 1 => flG F k ++ [.int .i64 (F k).1, .int .i64 (F k).2]
theorem flG_len (F : Nat → Int × Int) (n : Nat) : (flG F n).length = n * 2 := by
  induction n with
  | zero => rfl
  | succ n ih => show (flG F n ++ _).length = _; rw [List.length_append, ih]; simp; omega
theorem flG_at (F : Nat → Int × Int) (n i : Nat) (hi : i < n) : (flG F n)[i * 2]? = some (.int .i64 (F i).1) ∧ (flG F n)[i * 2 + 1]? = some (.int .i64 (F i).2) := by
  induction n with
  | zero => omega
  | succ n ih =>
    show (flG F n ++ [.int .i64 (F n).1, .int .i64 (F n).2])[i * 2]? = _ ∧ (flG F n ++ [.int .i64 (F n).1, .int .i64 (F n).2])[i * 2 + 1]? = _
    by_cases h : i < n
    · rw [List.getElem?_append_left (by rw [flG_len]; omega), List.getElem?_append_left (by rw [flG_len]; omega)]
      exact ih h
    · obtain rfl : i = n := by omega
      rw [List.getElem?_append_right (by rw [flG_len]; omega), List.getElem?_append_right (by rw [flG_len]; omega), flG_len]
      simp
theorem flG_one (F : Nat → Int × Int) (n : Nat) : ∀ u ∈ flG F n, u.oneCell' = true := by
  induction n with
  | zero => intro u h; cases h
  | succ n ih =>
    intro u h
    rcases List.mem_append.1 h with h | h
    · exact ih u h
    · simp at h
      rcases h with rfl | rfl <;> rfl
theorem RdG.news {w : World} {b off n cap : Nat} {F : Nat → Int × Int} (h : RdG w (some ⟨b, off, none⟩) n cap F) (j : Nat) (u : Value) (hu : (flG F n)[j]? = some u) : w.cell? ((⟨b, off, none⟩ : Addr).add j) = some u := by
  have hj : j < n * 2 := by rw [← flG_len F n]; exact (List.getElem?_eq_some_iff.1 hu).1
  obtain ⟨_, _, e, _, hc⟩ := h.at' (by omega)
  cases e
  obtain ⟨c1, c2⟩ := hc (j / 2) (by omega)
  obtain ⟨f1, f2⟩ := flG_at F n (j / 2) (by omega)
  rw [addr_add]
  by_cases hp : j % 2 = 0
  · rw [show j / 2 * 2 = j by omega] at f1 c1
    rw [f1] at hu
    rw [← hu]; exact c1
  · rw [show j / 2 * 2 + 1 = j by omega] at f2
    rw [show off + j / 2 * 2 + 1 = off + j by omega] at c2
    rw [f2] at hu
    rw [← hu]; exact c2
theorem own_rdG {w : World} {base : Nat} {v : Value} {n : Nat} {F : Nat → Int × Int} (h : w.ownsRow base 82 2 v n (flG F n)) : ∃ q c, v = .slice q n c ∧ RdG w q n c F ∧ (∀ b off, q = some ⟨b, off, none⟩ → base ≤ b) := by
  rcases h.2 with ⟨rfl, h0⟩ | ⟨g, cap, cur, rfl, hb, hg, hle, hmx, hsz, htk⟩
  · subst h0
    exact ⟨none, 0, rfl, RdG.nil0 _ _, fun b off e => by cases e⟩
  · refine ⟨some ⟨g, 0, none⟩, cap, rfl, ⟨hle, hmx, (fun e => by cases e), fun h0 => ⟨g, 0, rfl, (Array.getElem?_eq_some_iff.1 hg).1, fun i hi => ?_⟩⟩, fun b off e => by cases e; exact hb⟩
    obtain ⟨f1, f2⟩ := flG_at F n i hi
    have c1 := h.cells (g := g) rfl _ _ f1
    have c2 := h.cells (g := g) rfl _ _ f2
    rw [addr_add] at c1 c2
    exact ⟨c1, by rw [Nat.add_assoc]; exact c2⟩
theorem stc_slG (g i : Nat) (p : Option Addr) (l c : Nat) (w : World) (hc : ∃ u, w.cell? ⟨g, i, none⟩ = some u) (hf : w.frozen? ⟨g, i, none⟩ = false) : (Instr.storeAt 24 (.pointer (some ⟨g, i, none⟩)) (.slice p l c)).run Try.prog w = .ok () (w.setCell ⟨g, i, none⟩ (.slice p l c)) := by
  obtain ⟨u, hc⟩ := hc
  simp [go_sem, hc, hf]
theorem Try.info_nt : (Try.prog.info? 27).map (fun i => i.size) = some 10 := by kernel_rfl
theorem results_cellN {fn : Func} {p : Tmp} {ty : TypeId} (h : fn.results = #[.cell p ty]) (tmps : Array Value) (P : Program) (w : World) (a : Addr) (v : Value) (ha : tmps.getD p undef = .pointer (some a)) (hl : (loadVar ty a).run P w = .ok v w) :
    (results fn tmps).run P w = .ok v w := by
  simp only [results, h]
  rw [Array.getD_eq_getD_getElem?] at ha
  simp [Sem.run_bind, Result.andThen]
  rw [ha]
  simp [asAddr, hl]
end

section
def giF (G : List (Int × Int)) (i : Nat) : Int × Int := G.getD i (0, 0)
def tabG (F : Nat → Int × Int) (n : Nat) : List (Int × Int) := (List.range n).map F
theorem tabG_len (F : Nat → Int × Int) (n : Nat) : (tabG F n).length = n := by unfold tabG; simp
theorem giF_tab (F : Nat → Int × Int) (n i : Nat) (h : i < n) : giF (tabG F n) i = F i := by
  unfold giF tabG
  rw [List.getD_eq_getElem?_getD, List.getElem?_map, List.getElem?_range h]; rfl
theorem flG_cong (F F' : Nat → Int × Int) : ∀ n, (∀ i, i < n → F i = F' i) → flG F n = flG F' n := by
  intro n
  induction n with
  | zero => intro _; rfl
  | succ n ih => intro h; show flG F n ++ _ = flG F' n ++ _; rw [ih (fun i hi => h i (by omega)), h n (by omega)]
theorem flG_app (G : List (Int × Int)) (F : Nat → Int × Int) (m : Nat) (hm : G.length = m) : ∀ n, flG (giF (G ++ tabG F n)) (m + n) = flG (giF G) m ++ flG F n := by
  intro n
  induction n with
  | zero =>
    show flG (giF (G ++ [])) m = _ ++ []
    rw [List.append_nil, List.append_nil]
  | succ n ih =>
    show flG (giF (G ++ tabG F (n + 1))) (m + n) ++ [.int .i64 (giF (G ++ tabG F (n + 1)) (m + n)).1, .int .i64 (giF (G ++ tabG F (n + 1)) (m + n)).2] = _ ++ (flG F n ++ _)
    have e1 : ∀ i, i < m + n → giF (G ++ tabG F (n + 1)) i = giF (G ++ tabG F n) i := by
      intro i hi
      have e : tabG F (n + 1) = tabG F n ++ [F n] := by unfold tabG; rw [List.range_succ, List.map_append]; rfl
      unfold giF
      rw [e, ← List.append_assoc, List.getD_eq_getElem?_getD, List.getElem?_append_left (by rw [List.length_append, tabG_len]; omega), ← List.getD_eq_getElem?_getD]
    have e2 : giF (G ++ tabG F (n + 1)) (m + n) = F n := by
      have := giF_tab F (n + 1) n (by omega)
      unfold giF at this ⊢
      rw [List.getD_eq_getElem?_getD, List.getElem?_append_right (by omega), hm, Nat.add_sub_cancel_left, ← List.getD_eq_getElem?_getD]
      exact this
    rw [flG_cong _ _ _ e1, ih, e2, List.append_assoc]
/-- pairs in new memory -/
structure OwGi (w : World) (lo : Nat) (q : Option Addr) (m d : Nat) (G : List (Int × Int)) : Prop where
  own : w.ownsRow 0 82 2 (.slice q m d) m (flG (giF G) m)
  len : G.length = m
  new : ∀ g, (Value.slice q m d).ownBlock = some g → lo ≤ g
section
variable {w w' : World} {lo lo' : Nat} {q : Option Addr} {m d : Nat} {G : List (Int × Int)} {r : Option Nat}
theorem OwGi.nil (w : World) (lo : Nat) : OwGi w lo none 0 0 [] := ⟨World.ownsRow_nil _ _ _ _, rfl, fun g h => by cases h⟩
theorem OwGi.rd (h : OwGi w lo q m d G) : RdG w q m d (giF G) := by
  obtain ⟨q', c', e, h1, _⟩ := own_rdG h.own
  cases e
  exact h1
theorem OwGi.wide (h : OwGi w lo q m d G) (hl : lo' ≤ lo) : OwGi w lo' q m d G := ⟨h.own, h.len, fun g e => Nat.le_trans hl (h.new g e)⟩
theorem OwGi.lt (h : OwGi w lo q m d G) {g : Nat} (e : (Value.slice q m d).ownBlock = some g) : g < w.heap.size := by
  rcases h.own.2 with ⟨h1, _⟩ | ⟨g', cap', cur, h1, _, h3, _⟩
  · rw [h1] at e; cases e
  · rw [h1] at e
    have e : g' = g := Option.some.inj e
    subst e
    exact (Array.getElem?_eq_some_iff.1 h3).1
/-- whatever is written elsewhere -/
theorem OwGi.kR (h : OwGi w lo q m d G) (hg : w.grownBy w' r) (hr : ∀ z, r = some z → (Value.slice q m d).ownBlock ≠ some z) : OwGi w' lo q m d G := by
  refine ⟨h.own.kept hg ?_, h.len, h.new⟩
  cases hz : (Value.slice q m d).ownBlock with
  | none => exact .inl rfl
  | some z => exact .inr (fun e => hr z e.symm hz)
theorem OwGi.keep (h : OwGi w lo q m d G) (hg : w.grownBy w' none) : OwGi w' lo q m d G := h.kR hg (fun z e => by cases e)
theorem OwGi.neB {g : Nat} {t : TypeId} {cs : Array Value} (h : OwGi w lo q m d G) (hb : BxS w g t cs) (ht : 82 ≠ t) : (Value.slice q m d).ownBlock ≠ some g := by
  intro e
  rcases h.own.2 with ⟨h1, _⟩ | ⟨g', cap', cur, h1, _, h3, _⟩
  · rw [h1] at e; cases e
  · rw [h1] at e
    have e : g' = g := Option.some.inj e
    subst e
    have hb : w.heap[g']? = some (.cells cs t) := hb
    rw [h3] at hb
    injection hb with hb
    injection hb with _ hb
    exact ht hb
theorem OwGi.bx {g : Nat} {t : TypeId} {cs : Array Value} (h : OwGi w lo q m d G) (hb : BxS w g t cs) (ht : 82 ≠ t) (hg : w.grownBy w' (some g)) : OwGi w' lo q m d G :=
  h.kR hg (fun z e => by have e := Option.some.inj e; subst e; exact h.neB hb ht)
end
theorem own_up {w : World} {lo : Nat} {q : Option Addr} {m d : Nat} {G : List (Int × Int)} (h : OwGi w lo q m d G) : w.ownsRow lo 82 2 (.slice q m d) m (flG (giF G) m) := by
  refine ⟨h.own.1, ?_⟩
  rcases h.own.2 with h2 | ⟨g, cap, cur, h3, _, h5⟩
  · exact .inl h2
  · exact .inr ⟨g, cap, cur, h3, h.new g (by rw [h3]; rfl), h5⟩
theorem own_dn {w : World} {base : Nat} {e : TypeId} {sz : Nat} {v : Value} {n : Nat} {xs : List Value} (h : w.ownsRow base e sz v n xs) : w.ownsRow 0 e sz v n xs := by
  refine ⟨h.1, ?_⟩
  rcases h.2 with h2 | ⟨g, cap, cur, h3, h4, h5⟩
  · exact .inl h2
  · exact .inr ⟨g, cap, cur, h3, Nat.zero_le _, h5⟩
/-- 'append(v, x...)', pairs, v in memory of the call's own -/
theorem wpList_joinG {w : World} {ops : Array Oper} {rest : List Oper} {o : Oper} {a : Act} {Q : Exit → Act → World → Prop} (hg : o.guard = none) (s x : Operand)
    (hop : o.op = Op.call { callee := .builtin .append, args := #[s, x], argTypes := #[24, 24] }) (ao : Option Addr) (m co lo : Nat) (G : List (Int × Int)) (hs : a.eval s = .slice ao m co)
    (hA : OwGi w lo ao m co G) (hlo : lo ≤ w.heap.size) (ax : Option Addr) (nx cx : Nat) (F : Nat → Int × Int) (hx : a.eval x = .slice ax nx cx) (hR : RdG w ax nx cx F) (hb : m + nx ≤ 8796093021952)
    (hK : ∀ a' c' w', OwGi w' lo a' (m + nx) c' (G ++ tabG F nx) → w.grownBy w' (Value.slice ao m co).ownBlock → wpList Try.prog ops Q rest (a.put o.dst (.slice a' (m + nx) c')) w') :
    wpList Try.prog ops Q (o :: rest) a w := by
  obtain ⟨i0, hi, hz0, hz1, hz2⟩ := info_parts Try.info_pr
  cases ax with
  | none =>
    have hc0 : cx = 0 := hR.nil rfl
    have hn0 : nx = 0 := by have := hR.le; omega
    subst hc0 hn0
    refine wpList_append_own_none hg s x 24 hop 0 82 i0 2 Try.underlying24 hi (.slice ao m co) m (flG (giF G) m) hs hA.own hx ?_
    exact hK ao co w (by rw [show G ++ tabG F 0 = G from List.append_nil _]; exact hA) (World.grownBy.refl _ _)
  | some ad =>
    refine wpList_append_own_wide w hg s x 24 hop lo 82 i0 (.agg #[.int .i64 0, .int .i64 0]) 2 16 Try.underlying24 hi hz0 hz1 hz2 rfl (by decide) (.slice ao m co) m (flG (giF G) m) hs (own_up hA) ad nx cx (flG F nx) hx (flG_len F nx) ?_ (flG_one F nx) (by unfold maxLen; omega) (by omega) hlo ?_
    · intro j u hu
      have hj : j < nx * 2 := by rw [← flG_len F nx]; exact (List.getElem?_eq_some_iff.1 hu).1
      obtain ⟨b, off, e, _, _⟩ := hR.at' (by omega)
      cases e
      exact hR.news j u hu
    · intro v' w' hown hgr _
      rw [← flG_app G F m hA.len nx] at hown
      obtain ⟨q', c', rfl, h1, h2⟩ := own_rdG hown
      exact hK q' c' w' ⟨own_dn hown, by rw [List.length_append, hA.len, tabG_len], fun g e => by
        cases q' with
        | none => cases e
        | some b =>
          obtain ⟨bb, bo, bs⟩ := b
          have e : bb = g := Option.some.inj e
          rcases hown.2 with ⟨k1, _⟩ | ⟨g', cap', cur, k1, k2, _⟩
          · cases k1
          · cases k1; omega⟩ hgr
set_option maxHeartbeats 4000000 in
theorem gclone_any (a : Option Addr) (n cap : Nat) (F : Nat → Int × Int) (w : World) (hp : RdG w a n cap F) (hn : n ≤ 8796093021952) :
    Calls Try.prog 93 #[.slice a n cap] w fun e w' => ∃ a' c', e = .returned (.slice a' n c') ∧ OwGi w' w.heap.size a' n c' (tabG F n) ∧ w.grownBy w' none := by
  cases a with
  | none =>
    have hc0 : cap = 0 := hp.nil rfl
    have hn0 : n = 0 := by have := hp.le; omega
    subst hc0 hn0
    have heq := fun w => Lib.run_eql_slice_nil (P := Try.prog) w 24 82 none 0 0 0 0 Try.underlying24
    go_enter Try.func93, Try.ntmps93
    go_wp2
    go_ret
    exact ⟨none, 0, rfl, OwGi.nil _ _, World.grownBy.refl _ _⟩
  | some ad =>
    have gA := World.grownBy_alloc w (.cells #[] 82) none
    have hA := heap_alloc_new w (.cells #[] 82)
    have hown : OwGi (w.alloc (.cells #[] 82)) w.heap.size (some ⟨w.heap.size, 0, none⟩) 0 0 [] := ⟨⟨rfl, .inr ⟨w.heap.size, 0, #[], rfl, Nat.zero_le _, hA, Nat.le_refl _, Nat.zero_le _, rfl, rfl⟩⟩, rfl, fun g h => by have e : w.heap.size = g := Option.some.inj h; omega⟩
    have hpA := hp.keep gA
    have heq := fun w => Lib.run_eql_slice_nil (P := Try.prog) w 24 82 (some ad) n cap 0 0 Try.underlying24
    go_enter Try.func93, Try.ntmps93
    go_wp2_with (at_builtin; refine wpList_joinG rfl _ _ rfl _ 0 0 w.heap.size [] rfl hown (by simp) _ n cap F rfl hpA (by omega) ?_; intro a' c' w2 hA2 hg2)
    go_ret
    rw [Nat.zero_add, List.nil_append] at *
    exact ⟨a', c', rfl, hA2, grown_far gA hg2 (fun x hx => by have e : w.heap.size = x := Option.some.inj hx; omega)⟩
end

section
open Go.ChangeShapes Go.WideShapes

/-- a slice of pairs of numbers -/
theorem met_pairs {w : World} {full : Bool} {N : Nat} {cs : List Value} (h : (Sh.slice 2 16 (Sh.rep 1 (.int .i64) 2)).met w full cs N) :
    ∃ a len cap F, cs = [.slice a len cap] ∧ RdG w a len cap F ∧ (full = true → cap * 16 ≤ reachBytes) ∧ cap + 1 ≤ N := by
  rcases h with ⟨rfl, rfl⟩ | ⟨x, len, cap, G, C, rfl, rfl, hl, hm, hf, hc⟩
  · exact ⟨none, 0, 0, fun _ => (0, 0), rfl, RdG.nil0 _ _, fun _ => by rw [Nat.zero_mul]; exact Nat.zero_le _, Nat.le_refl _⟩
  · have each : ∀ i, i < cap → ∃ p : Int × Int, (w.cell? (x.add (i * 2)) = some (.int .i64 p.1) ∧ w.cell? (x.add (i * 2 + 1)) = some (.int .i64 p.2)) ∧ 1 ≤ G i := by
      intro i hi
      obtain ⟨h1, h2, n1, n2, e1, ⟨m1, z1, c1, _⟩, n3, n4, e2, ⟨m2, z2, c2, _⟩, _, m3⟩ := hc i hi
      match hC : C i, h1 with
      | [u, v], _ =>
        rw [hC] at h2 c1 c2
        have d1 := h2 0 (by decide)
        have d2 := h2 1 (by decide)
        simp at c1 c2 d1 d2
        subst c1 c2
        exact ⟨(z1, z2), ⟨d1, d2⟩, by omega⟩
    have hI : Inhabited (Int × Int) := ⟨(0, 0)⟩
    obtain ⟨F, hF⟩ := Go.Deep.choose_lt each
    have hG : ∀ i, i < cap → 1 ≤ G i := fun i hi => (hF i hi).2
    refine ⟨some x, len, cap, F, rfl, ⟨hl, hm, (fun e => by cases e), fun h0 => ?_⟩, hf, ?_⟩
    · obtain ⟨b, off, spot⟩ := x
      have hc0 := (hF 0 (by omega)).1.1
      have h0' : w.cell? (⟨b, off, spot⟩ : Addr) = some (.int .i64 (F 0).1) := by simpa [Addr.add] using hc0
      have hspot : spot = none := by simpa using World.cell?_spot h0'
      subst hspot
      refine ⟨b, off, rfl, World.block_lt_of_cell? w _ h0', fun i hi => ?_⟩
      obtain ⟨k1, k2⟩ := (hF i (by omega)).1
      rw [addr_add] at k1 k2
      exact ⟨k1, by rw [Nat.add_assoc]; exact k2⟩
    · have := sumN_le (F := G) (n := cap) hG
      omega
end

section
/-- bytes that are not yet read -/
structure Rdr (w0 w : World) (gr : Nat) (D : List Nat) : Prop where
  lo : w0.heap.size ≤ gr
  ex : ∃ a n c, BxS w gr 123 #[.slice a n c] ∧ Rd w0 a n c D
  g : w0.grownBy w none
end

section
/-- the number of the first region of a piece of code (0: none; n + 1: region n) -/
def fstR : Code → Nat
  | .region id _ _ => id + 1
  | .seq a _ => fstR a
  | .block _ b => fstR b
  | .loop b => fstR b
  | _ => 0
/-- the piece of code that begins with region n, as long as can be -/
def tailR (n : Nat) : Code → Code
  | .seq a b => if fstR a = n + 1 then .seq a b else match tailR n a with
    | .skip => tailR n b
    | c => c
  | .cond _ t e => match tailR n t with
    | .skip => tailR n e
    | c => c
  | .block _ b => tailR n b
  | .loop b => tailR n b
  | .region id o d => if id = n then .region id o d else .skip
  | _ => .skip
end

section
theorem cell_grown {w w' : World} {b i : Nat} {r : Option Nat} {v : Value} (h : w.cell? ⟨b, i, none⟩ = some v) (hg : w.grownBy w' r) (hb : b < w.heap.size) (hne : some b ≠ r) : w'.cell? ⟨b, i, none⟩ = some v := by
  rw [← h]
  unfold World.cell?
  rw [hg.block b hb hne]
end

section
/-- bytes as they lie in memory, and what they are -/
structure Rw where
  a : Option Addr
  n : Nat
  c : Nat
  D : List Nat
/-- rows of bytes as they are read -/
structure RdR (w : World) (a : Option Addr) (n cap : Nat) (F : Nat → Rw) : Prop where
  le : n ≤ cap
  max : cap ≤ maxLen
  at' : 0 < n → ∃ b off, a = some ⟨b, off, none⟩ ∧ b < w.heap.size ∧ ∀ i, i < n → w.cell? ⟨b, off + i, none⟩ = some (.slice (F i).a (F i).n (F i).c)
  data : ∀ i, i < n → Rd w (F i).a (F i).n (F i).c (F i).D
theorem RdR.keep {w w' : World} {a : Option Addr} {n cap : Nat} {F : Nat → Rw} (h : RdR w a n cap F) (hg : w.grownBy w' none) : RdR w' a n cap F :=
  ⟨h.le, h.max, fun h0 => by
    obtain ⟨b, off, e, hb, hc⟩ := h.at' h0
    exact ⟨b, off, e, Nat.lt_of_lt_of_le hb hg.size, fun i hi => cell_grown (hc i hi) hg hb (by simp)⟩, fun i hi => (h.data i hi).keep hg⟩
/-- an ear as it lies in memory -/
structure Er where
  x : Int
  r : Rw
structure RdE (w : World) (a : Option Addr) (n cap : Nat) (F : Nat → Er) : Prop where
  le : n ≤ cap
  max : cap ≤ maxLen
  at' : 0 < n → ∃ b off, a = some ⟨b, off, none⟩ ∧ b < w.heap.size ∧ ∀ i, i < n → w.cell? ⟨b, off + i * 2, none⟩ = some (.int .i64 (F i).x) ∧ w.cell? ⟨b, off + i * 2 + 1, none⟩ = some (.slice (F i).r.a (F i).r.n (F i).r.c)
  data : ∀ i, i < n → Rd w (F i).r.a (F i).r.n (F i).r.c (F i).r.D
theorem RdE.keep {w w' : World} {a : Option Addr} {n cap : Nat} {F : Nat → Er} (h : RdE w a n cap F) (hg : w.grownBy w' none) : RdE w' a n cap F :=
  ⟨h.le, h.max, fun h0 => by
    obtain ⟨b, off, e, hb, hc⟩ := h.at' h0
    exact ⟨b, off, e, Nat.lt_of_lt_of_le hb hg.size, fun i hi => ⟨cell_grown (hc i hi).1 hg hb (by simp), cell_grown (hc i hi).2 hg hb (by simp)⟩⟩, fun i hi => (h.data i hi).keep hg⟩
end
end Go.Proofs.Ytnimehkfnpepfaa
