import Derived.Test.YtnimehkfnpepfaaWh5
namespace Go.Proofs.Ytnimehkfnpepfaa
open Go.RowKit
set_option maxRecDepth 100000
set_option linter.unusedVariables false
set_option linter.unusedSimpArgs false

section
theorem Try.info_n : (Try.prog.info? 3).map (fun i => (i.zero, i.size, i.bytes)) = some (some (.int .i64 0), 1, 8) := by kernel_rfl
theorem plain_i64 : Try.prog.plainKey 3 = true := by kernel_rfl
theorem cells_i64 : Try.prog.cellsOf 3 = 1 := by kernel_rfl
theorem eq_i64 (d : Nat) (x y : Int) (w : World) : (Op.equalIn (d + 1) 3 (.int .i64 x) (.int .i64 y)).run Try.prog w = .ok (x == y) w := run_equalIn_int w d 3 .i64 .i64 x y Try.underlying3
theorem items_i64 (d : Nat) (xs ys : List Int) (is : List Nat) (w : World) (hx : ∀ i ∈ is, i < xs.length) (hy : ∀ i ∈ is, i < ys.length) :
    (Op.eqItems (d + 1) 3 1 (xs.map (Value.int .i64 ·)).toArray (ys.map (Value.int .i64 ·)).toArray is).run Try.prog w = .ok (is.all fun i => xs.getD i 0 == ys.getD i 0) w := by
  induction is with
  | nil => simp [Op.eqItems]
  | cons i is ih =>
    have h1 := hx i (by simp)
    have h2 := hy i (by simp)
    have p1 := run_part_plain w plain_i64 (xs := (xs.map (Value.int .i64 ·)).toArray) (off := i * 1) (v := .int .i64 (xs.getD i 0)) (by simp [h1])
    have p2 := run_part_plain w plain_i64 (xs := (ys.map (Value.int .i64 ·)).toArray) (off := i * 1) (v := .int .i64 (ys.getD i 0)) (by simp [h2])
    simp only [Op.eqItems, Sem.run_bind, p1, p2, Result.andThen_ok, eq_i64]
    rw [List.all_cons]
    cases hb : (xs.getD i 0 == ys.getD i 0) with
    | false => simp
    | true => simpa using ih (fun j hj => hx j (by simp [hj])) (fun j hj => hy j (by simp [hj]))
/-- arrays of numbers compared -/
theorem arr_i64 {t : TypeId} {n : Nat} (hu : Try.prog.underlying t = some (.array n 3)) (xs ys : List Int) (hx : xs.length = n) (hy : ys.length = n) (w : World) :
    (Op.equalIn 10000 t (.agg (xs.map (Value.int .i64 ·)).toArray) (.agg (ys.map (Value.int .i64 ·)).toArray)).run Try.prog w = .ok ((List.range n).all fun i => xs.getD i 0 == ys.getD i 0) w := by
  obtain ⟨i0, hi, _⟩ := info_parts Try.info_n
  rw [run_equalIn_array w 9999 _ _ hu hi, cells_i64]
  exact items_i64 9998 xs ys _ w (fun i h => by rw [hx]; exact List.mem_range.1 h) (fun i h => by rw [hy]; exact List.mem_range.1 h)
/-- pairs compared -/
theorem arr2_i64 (x x' y y' : Int) (w : World) : (Op.equalIn 10000 82 (.agg #[.int .i64 x, .int .i64 x']) (.agg #[.int .i64 y, .int .i64 y'])).run Try.prog w = .ok (x == y && x' == y') w :=
  (arr_i64 Try.underlying82 [x, x'] [y, y'] rfl rfl w).trans (by congr 1; simp [List.range_succ])
/-- a slice of pairs of numbers as it is read -/
structure RdG (w : World) (a : Option Addr) (n cap : Nat) (F : Nat → Int × Int) : Prop where
  le : n ≤ cap
  max : cap ≤ maxLen
  nil : a = none → cap = 0
  at' : 0 < n → ∃ b off, a = some ⟨b, off, none⟩ ∧ b < w.heap.size ∧ ∀ i, i < n → w.cell? ⟨b, off + i * 2, none⟩ = some (.int .i64 (F i).1) ∧ w.cell? ⟨b, off + i * 2 + 1, none⟩ = some (.int .i64 (F i).2)
theorem RdG.grown {w w' : World} {a : Option Addr} {n cap : Nat} {F : Nat → Int × Int} {r : Option Nat} (h : RdG w a n cap F) (hg : w.grownBy w' r) (hne : ∀ b off, a = some ⟨b, off, none⟩ → some b ≠ r) : RdG w' a n cap F :=
  ⟨h.le, h.max, h.nil, fun h0 => by
    obtain ⟨b, off, e, hb, hc⟩ := h.at' h0
    refine ⟨b, off, e, Nat.lt_of_lt_of_le hb hg.size, fun i hi => ?_⟩
    have := hc i hi
    unfold World.cell? at this ⊢
    rw [hg.block b hb (hne b off e)]
    exact this⟩
theorem RdG.keep {w w' : World} {a : Option Addr} {n cap : Nat} {F : Nat → Int × Int} (h : RdG w a n cap F) (hg : w.grownBy w' none) : RdG w' a n cap F := h.grown hg (fun _ _ _ => by simp)
theorem RdG.nil0 (w : World) (F : Nat → Int × Int) : RdG w none 0 0 F := ⟨Nat.le_refl _, Nat.zero_le _, fun _ => rfl, fun h => absurd h (by decide)⟩
end
end Go.Proofs.Ytnimehkfnpepfaa
