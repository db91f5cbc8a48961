import Derived.Test.YtchbppidepapiaaDoorMHm
namespace Go.Proofs.YtchbppidepapiaaDoor
open Go.RowKit
set_option maxRecDepth 100000
set_option linter.unusedVariables false
set_option linter.unusedSimpArgs false

/-- which of m things a raw number speaks of -/
def pkH (x : Int) (m : Nat) : Nat := ((if x < 0 then -(x + 1) else x) % (m : Int)).toNat
theorem pkH_lt (x : Int) (m : Nat) (h : 0 < m) : pkH x m < m := by
  unfold pkH
  have := Int.emod_lt_of_pos (if x < 0 then -(x + 1) else x) (show (0 : Int) < (m : Int) by omega)
  have := Int.emod_nonneg (if x < 0 then -(x + 1) else x) (show (m : Int) ≠ 0 by omega)
  omega
theorem pickH_any (n : Int) (m : Nat) (w : World) (h1 : -9223372036854775808 ≤ n ∧ n ≤ 9223372036854775807) (ho : 0 < m) (ho2 : m ≤ 9223372036854775807) :
    Calls Tryd.prog 8 #[.int .i64 n, .int .i64 m] w fun e w' => e = .returned (.int .i64 (pkH n m : Nat)) ∧ w' = w := by
  obtain ⟨h1, h2⟩ := h1
  have hnz : ¬ (m : Int) = 0 := by omega
  by_cases hn : n < 0
  · go_enter Tryd.func8, Tryd.ntmps8
    go_wp2
    go_ret
    have p1 := Int.emod_nonneg (-(n + 1)) (show (m : Int) ≠ 0 by omega)
    have e : -((n + 1).tmod m) = (-(n + 1)) % m := by rw [← Int.neg_tmod, Int.tmod_eq_emod_of_nonneg (by omega)]
    refine ⟨?_, rfl⟩
    refine congrArg (fun z => Ending.returned (Value.int .i64 z)) (?_ : -((n + 1).tmod m) = _)
    rw [e]
    unfold pkH
    rw [if_pos hn]
    omega
  · go_enter Tryd.func8, Tryd.ntmps8
    go_wp2
    go_ret
    have p1 := Int.emod_nonneg n (show (m : Int) ≠ 0 by omega)
    refine ⟨?_, rfl⟩
    refine congrArg (fun z => Ending.returned (Value.int .i64 z)) (?_ : n % m = _)
    unfold pkH
    rw [if_neg (by omega)]
    omega

/-- numbers that came in, with their bounds -/
structure RdJ (w : World) (a : Option Addr) (n cap : Nat) (S : List Int) : Prop where
  rd : RdI w a n cap S
  inB : ∀ i, i < n → -9223372036854775808 ≤ nthI S i ∧ nthI S i ≤ 9223372036854775807
theorem RdJ.at_in {w wr : World} {a : Option Addr} {n cap : Nat} {S : List Int} (h : RdJ w a n cap S) (hg : w.grownBy wr none) (k : Nat) (hk : k < n) : ∃ b off, a = some ⟨b, off, none⟩ ∧ b < w.heap.size ∧ wr.cell? ⟨b, off + k, none⟩ = some (.int .i64 (nthI S k)) := by
  obtain ⟨b, off, e, hb, hc⟩ := h.rd.at' (by omega)
  exact ⟨b, off, e, hb, (World.cell?_of_block (w := w) (hg.block b hb (by simp))).trans (hc k hk)⟩
/-- a row of rows of numbers -/
structure RdJJ (w : World) (a : Option Addr) (n cap : Nat) (R : Nat → Option Addr × Nat × Nat × List Int) : Prop where
  le : n ≤ cap
  max : cap ≤ maxLen
  at' : 0 < n → ∃ b off, a = some ⟨b, off, none⟩ ∧ b < w.heap.size ∧ ∀ i, i < n → w.cell? ⟨b, off + i, none⟩ = some (.slice (R i).1 (R i).2.1 (R i).2.2.1)
  each : ∀ i, i < n → RdJ w (R i).1 (R i).2.1 (R i).2.2.1 (R i).2.2.2
theorem RdJJ.at_in {w wr : World} {a : Option Addr} {n cap : Nat} {R : Nat → Option Addr × Nat × Nat × List Int} (h : RdJJ w a n cap R) (hg : w.grownBy wr none) (k : Nat) (hk : k < n) : ∃ b off, a = some ⟨b, off, none⟩ ∧ b < w.heap.size ∧ wr.cell? ⟨b, off + k, none⟩ = some (.slice (R k).1 (R k).2.1 (R k).2.2.1) := by
  obtain ⟨b, off, e, hb, hc⟩ := h.at' (by omega)
  exact ⟨b, off, e, hb, (World.cell?_of_block (w := w) (hg.block b hb (by simp))).trans (hc k hk)⟩
/-- pokes, cell by cell -/
def pkC (p : Nat × Nat × Nat) : List Value := [.int .i64 (p.1 : Nat), .int .i64 (p.2.1 : Nat), .int .i64 (p.2.2 : Nat)]
def flK (P : List (Nat × Nat × Nat)) : List Value := P.flatMap pkC
theorem flK_add (P : List (Nat × Nat × Nat)) (p : Nat × Nat × Nat) : flK P ++ pkC p = flK (P ++ [p]) := by simp [flK]
theorem flK_get (P : List (Nat × Nat × Nat)) (i j : Nat) (hi : i < P.length) (hj : j < 3) : (flK P)[i * 3 + j]? = (pkC (gP P i))[j]? := by
  induction P generalizing i with
  | nil => simp at hi
  | cons p P ih =>
    have hc : (pkC p).length = 3 := rfl
    simp only [flK, List.flatMap_cons]
    cases i with
    | zero =>
      rw [List.getElem?_append_left (by rw [hc]; omega)]
      simp [gP]
    | succ i =>
      rw [List.getElem?_append_right (by rw [hc]; omega), hc, show (i + 1) * 3 + j - 3 = i * 3 + j by omega]
      have := ih i (by simpa using hi)
      simpa [flK, gP] using this
theorem pdL_len (s : List Nat × Nat) (F : Nat → Nat × Nat × Nat) (m : Nat) : (pdL s F m).length = m * 4 := by
  induction m with
  | zero => rfl
  | succ m ih => rw [pdL, List.length_append, ih]; simp; omega
theorem pdL_get (s : List Nat × Nat) (F : Nat → Nat × Nat × Nat) (m i j : Nat) (hi : i < m) (hj : j < 4) : (pdL s F m)[i * 4 + j]? = [Value.int .i64 (mOu (mRu s F i) (F i) : Nat), .slice none 0 0, .int .i64 0, .int .i64 0][j]? := by
  induction m with
  | zero => omega
  | succ m ih =>
    rw [pdL]
    by_cases e : i < m
    · rw [List.getElem?_append_left (by rw [pdL_len]; omega)]
      exact ih e
    · obtain rfl : i = m := by omega
      rw [List.getElem?_append_right (by rw [pdL_len]; omega), pdL_len, Nat.add_sub_cancel_left]
/-- pokes in a row of the call's own -/
structure OwK (w : World) (lo : Nat) (ao : Option Addr) (m co : Nat) (P : List (Nat × Nat × Nat)) : Prop where
  own : w.ownsRow 0 35 3 (.slice ao m co) m (flK P)
  len : P.length = m
  new : ∀ g, (Value.slice ao m co).ownBlock = some g → lo ≤ g
theorem OwK.rd {w : World} {lo m co : Nat} {ao : Option Addr} {P : List (Nat × Nat × Nat)} (h : OwK w lo ao m co P) : RdK w ao m co (gP P) := by
  rcases h.own.2 with ⟨e, h0⟩ | ⟨g, c, cur, e, _, hh, hle, hmax, _⟩
  · simp only [Value.slice.injEq] at e
    obtain ⟨rfl, rfl, rfl⟩ := e
    exact ⟨Nat.le_refl _, Nat.zero_le _, fun h => by omega⟩
  · simp only [Value.slice.injEq] at e
    obtain ⟨rfl, _, rfl⟩ := e
    refine ⟨hle, hmax, fun _ => ⟨g, 0, rfl, (Array.getElem?_eq_some_iff.1 hh).1, fun i hi => ?_⟩⟩
    have hc := fun j u hu => h.own.cells (g := g) rfl j u hu
    have hi' : i < P.length := by rw [h.len]; exact hi
    refine ⟨?_, ?_, ?_⟩
    · have := hc (i * 3 + 0) _ ((flK_get P i 0 hi' (by decide)).trans rfl)
      rwa [addr_add] at this
    · have := hc (i * 3 + 1) _ ((flK_get P i 1 hi' (by decide)).trans rfl)
      rwa [addr_add] at this
    · have := hc (i * 3 + 2) _ ((flK_get P i 2 hi' (by decide)).trans rfl)
      rwa [addr_add] at this
theorem Tryd.info_pke : (Tryd.prog.info? 35).map (fun i => (i.zero, i.size, i.bytes)) = some (some (.agg #[.int .i64 0, .int .i64 0, .int .i64 0]), 3, 24) := by kernel_rfl
theorem three_row (w : World) (x y z : Value) : ∀ j u, [x, y, z][j]? = some u → (w.alloc (.cells #[x, y, z] 35)).cell? ((⟨w.heap.size, 0, none⟩ : Addr).add j) = some u := by
  intro j u h
  rw [addr_add, cell_of_row _ _ _ _ _ _ (heap_alloc_new w _)]
  simpa using h
/-- 's = append(s, Poke{..})' -/
theorem wpList_psK (w0 w : World) {ops : Array Oper} {rest : List Oper} {o : Oper} {a : Act} {Q : Exit → Act → World → Prop} (hg : o.guard = none) (s x : Operand)
    (hop : o.op = Op.call { callee := .builtin .append, args := #[s, x], argTypes := #[22, 22] }) (ao : Option Addr) (m co : Nat) (P : List (Nat × Nat × Nat)) (d k z : Nat) (hs : a.eval s = .slice ao m co)
    (hA : OwK w w0.heap.size ao m co P) (hG : w0.grownBy w none) (hx : a.eval x = .slice (some ⟨w.heap.size, 0, none⟩) 1 1) (hb : m + 1 ≤ 1000000)
    (hK : ∀ gx cx w', OwK w' w0.heap.size (some ⟨gx, 0, none⟩) (m + 1) cx (P ++ [(d, k, z)]) → w0.grownBy w' none → wpList Tryd.prog ops Q rest (a.put o.dst (.slice (some ⟨gx, 0, none⟩) (m + 1) cx)) w') :
    wpList Tryd.prog ops Q (o :: rest) a (w.alloc (.cells #[.int .i64 (d : Int), .int .i64 (k : Int), .int .i64 (z : Int)] 35)) := by
  obtain ⟨i0, hi0, hz0, hz1, hz2⟩ := info_parts Tryd.info_pke
  have gA := World.grownBy_alloc w (.cells #[.int .i64 (d : Int), .int .i64 (k : Int), .int .i64 (z : Int)] 35) none
  refine wpList_apS _ hg s x 22 35 i0 _ 3 24 Tryd.underlying22 hi0 hz0 hz1 hz2 rfl (by decide) hop (.slice ao m co) m (flK P) hs (hA.own.alloc _) ⟨w.heap.size, 0, none⟩ 1 1 (pkC (d, k, z)) hx rfl (three_row w _ _ _) (by simp [pkC, Value.oneCell']) (by decide) (by unfold maxLen; omega) (by omega) ?_
  intro gx cx w' hgx hgr hown
  rw [flK_add] at hown
  refine hK gx cx w' ⟨hown, by rw [List.length_append, hA.len]; rfl, fun g hg' => ?_⟩ (grown_far (grown_trans hG gA) hgr (fun g e => hA.new g e))
  have e : gx = g := Option.some.inj hg'
  subst e
  rcases hgx with h | h
  · exact hA.new _ h
  · exact Nat.le_trans hG.size (Nat.le_trans gA.size h)
end Go.Proofs.YtchbppidepapiaaDoor
