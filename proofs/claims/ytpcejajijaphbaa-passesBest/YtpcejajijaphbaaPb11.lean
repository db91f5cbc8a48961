import Derived.OpenShut
import Derived.Test.YtpcejajijaphbaaPb10
import Derived.Test.YtpcejajijaphbaaPb0
import Derived.Test.YtpcejajijaphbaaPb1
namespace Go.Proofs.Ytpcejajijaphbaa
open Go.RowKit
set_option maxRecDepth 100000
set_option linter.unusedVariables false
set_option linter.unusedSimpArgs false

section
def pkL (x : Int) (m : Nat) : Nat := ((if x < 0 then -(x + 1) else x) % (m : Int)).toNat
theorem pkL_lt (x : Int) (m : Nat) (h : 0 < m) : pkL x m < m := by
  unfold pkL
  have := Int.emod_lt_of_pos (if x < 0 then -(x + 1) else x) (show (0 : Int) < (m : Int) by omega)
  have := Int.emod_nonneg (if x < 0 then -(x + 1) else x) (show (m : Int) ≠ 0 by omega)
  omega
theorem pickL_any (n : Int) (m : Nat) (w : World) (h1 : -9223372036854775808 ≤ n ∧ n ≤ 9223372036854775807) (ho : 0 < m) (ho2 : m ≤ 9223372036854775807) :
    Calls Try.prog 9 #[.int .i64 n, .int .i64 m] w fun e w' => e = .returned (.int .i64 (pkL n m : Nat)) ∧ w' = w := by
  obtain ⟨h1, h2⟩ := h1
  have hnz : ¬ (m : Int) = 0 := by omega
  by_cases hn : n < 0
  · go_enter Try.func9, Try.ntmps9
    go_wp2
    go_ret
    have p1 := Int.emod_nonneg (-(n + 1)) (show (m : Int) ≠ 0 by omega)
    have e : -((n + 1).tmod m) = (-(n + 1)) % m := by rw [← Int.neg_tmod, Int.tmod_eq_emod_of_nonneg (by omega)]
    refine ⟨?_, rfl⟩
    refine congrArg (fun z => Ending.returned (Value.int .i64 z)) (?_ : -((n + 1).tmod m) = _)
    rw [e]
    unfold pkL
    rw [if_pos hn]
    omega
  · go_enter Try.func9, Try.ntmps9
    go_wp2
    go_ret
    have p1 := Int.emod_nonneg n (show (m : Int) ≠ 0 by omega)
    refine ⟨?_, rfl⟩
    refine congrArg (fun z => Ending.returned (Value.int .i64 z)) (?_ : n % m = _)
    unfold pkL
    rw [if_neg (by omega)]
    omega
def ok64 (x : Int) : Prop := -9223372036854775808 ≤ x ∧ x ≤ 9223372036854775807
def cel2 (p : Int × Int) : List Value := [.int .i64 p.1, .int .i64 p.2]
def cel1 (p : Int) : List Value := [.int .i64 p]
structure RdTu (w : World) (a : Option Addr) (n cap : Nat) (K : Nat → Int × Int) : Prop where
  le : n ≤ cap
  max : cap ≤ maxLen
  at' : 0 < n → ∃ b off, a = some ⟨b, off, none⟩ ∧ b < w.heap.size ∧ ∀ i, i < n → ∀ j, j < 2 → w.cell? ⟨b, off + (i * 2 + j), none⟩ = (cel2 (K i))[j]?
  ok : ∀ i, i < n → (ok64 (K i).1 ∧ ok64 (K i).2)
structure RdIn (w : World) (a : Option Addr) (n cap : Nat) (K : Nat → Int) : Prop where
  le : n ≤ cap
  max : cap ≤ maxLen
  at' : 0 < n → ∃ b off, a = some ⟨b, off, none⟩ ∧ b < w.heap.size ∧ ∀ i, i < n → ∀ j, j < 1 → w.cell? ⟨b, off + (i * 1 + j), none⟩ = (cel1 (K i))[j]?
  ok : ∀ i, i < n → ok64 (K i)
theorem met_turns {w : World} {full : Bool} {n : Nat} {cs : List Value} (h : (Sh.fcons 1 (.int .i64) (.fcons 1 (.int .i64) .fend)).met w full cs n) : ∃ p : Int × Int, cs = cel2 p ∧ ok64 p.1 ∧ ok64 p.2 := by
  obtain ⟨n0, m0, rfl, ⟨_, a, e0, k0⟩, n1, m1, rfl, ⟨_, b, e1, k1⟩, e2, _⟩ := h
  refine ⟨(a, b), ?_, bounds_i64 k0, bounds_i64 k1⟩
  unfold cel2
  match cs with
  | [] => simp at e0
  | [_] => simp at e1
  | [x0, x1] => simp_all
  | x0 :: x1 :: x2 :: r => simp at e2
theorem met_intsR {w : World} {full : Bool} {n : Nat} {cs : List Value} (h : (Sh.int .i64).met w full cs n) : ∃ p : Int, cs = cel1 p ∧ ok64 p := by
  obtain ⟨_, a, e0, k0⟩ := h
  exact ⟨a, e0, bounds_i64 k0⟩
theorem shown_turns {w : World} {full : Bool} {N : Nat} {v : Value} (h : (Sh.slice 2 16 (Sh.fcons 1 (.int .i64) (.fcons 1 (.int .i64) .fend))).shown w full v N) : ∃ a len cap K, v = .slice a len cap ∧ RdTu w a len cap K := by
  have h : (Sh.slice 2 16 (Sh.fcons 1 (.int .i64) (.fcons 1 (.int .i64) .fend))).met w full [v] N := h
  rcases h with ⟨rfl, e⟩ | ⟨x, len, cap, G, C, e, e', hl, hm, hf, hc⟩
  · cases e
    exact ⟨none, 0, 0, fun _ => (0, 0), rfl, ⟨Nat.le_refl _, Nat.zero_le _, (fun h => by omega), (fun i h => by omega)⟩⟩
  · cases e
    have each : ∀ i, i < cap → ∃ p : Int × Int, (∀ j, j < 2 → w.cell? (x.add (i * 2 + j)) = (cel2 p)[j]?) ∧ (ok64 p.1 ∧ ok64 p.2) := by
      intro i hi
      obtain ⟨h1, h2, h3⟩ := hc i hi
      obtain ⟨p, e, hp⟩ := met_turns h3
      refine ⟨p, fun j hj => ?_, hp⟩
      rw [h2 j hj, e]
    have hI : Inhabited (Int × Int) := ⟨(0, 0)⟩
    obtain ⟨K, hK⟩ := Go.Deep.choose_lt each
    refine ⟨some x, len, cap, K, rfl, ⟨hl, hm, fun h0 => ?_, fun i hi => (hK i (by omega)).2⟩⟩
    obtain ⟨b, off, spot⟩ := x
    have hc0 := (hK 0 (by omega)).1 0 (by decide)
    have h0' : w.cell? (⟨b, off, spot⟩ : Addr) = some (.int .i64 (K 0).1) := by simpa [Addr.add, cel1, cel2] using hc0
    have hspot : spot = none := by simpa using World.cell?_spot h0'
    subst hspot
    refine ⟨b, off, rfl, World.block_lt_of_cell? w _ h0', fun i hi j hj => ?_⟩
    rw [← addr_add]
    exact (hK i (by omega)).1 j hj
theorem shown_intsR {w : World} {full : Bool} {N : Nat} {v : Value} (h : (Sh.slice 1 8 (Sh.int .i64)).shown w full v N) : ∃ a len cap K, v = .slice a len cap ∧ RdIn w a len cap K := by
  have h : (Sh.slice 1 8 (Sh.int .i64)).met w full [v] N := h
  rcases h with ⟨rfl, e⟩ | ⟨x, len, cap, G, C, e, e', hl, hm, hf, hc⟩
  · cases e
    exact ⟨none, 0, 0, fun _ => 0, rfl, ⟨Nat.le_refl _, Nat.zero_le _, (fun h => by omega), (fun i h => by omega)⟩⟩
  · cases e
    have each : ∀ i, i < cap → ∃ p : Int, (∀ j, j < 1 → w.cell? (x.add (i * 1 + j)) = (cel1 p)[j]?) ∧ ok64 p := by
      intro i hi
      obtain ⟨h1, h2, h3⟩ := hc i hi
      obtain ⟨p, e, hp⟩ := met_intsR h3
      refine ⟨p, fun j hj => ?_, hp⟩
      rw [h2 j hj, e]
    have hI : Inhabited Int := ⟨0⟩
    obtain ⟨K, hK⟩ := Go.Deep.choose_lt each
    refine ⟨some x, len, cap, K, rfl, ⟨hl, hm, fun h0 => ?_, fun i hi => (hK i (by omega)).2⟩⟩
    obtain ⟨b, off, spot⟩ := x
    have hc0 := (hK 0 (by omega)).1 0 (by decide)
    have h0' : w.cell? (⟨b, off, spot⟩ : Addr) = some (.int .i64 (K 0)) := by simpa [Addr.add, cel1, cel2] using hc0
    have hspot : spot = none := by simpa using World.cell?_spot h0'
    subst hspot
    refine ⟨b, off, rfl, World.block_lt_of_cell? w _ h0', fun i hi j hj => ?_⟩
    rw [← addr_add]
    exact (hK i (by omega)).1 j hj
theorem Try.info_paF : (Try.prog.info? 29).map (fun i => (i.zero, i.size, i.bytes)) = some (some (.agg #[.int .i64 0, .int .i64 0, .int .i64 0, .int .i64 0]), 4, 32) := by kernel_rfl
def flA (Ps : List Pa) : List Value := Ps.flatMap Pa.cells
theorem flA_at (Ps : List Pa) : ∀ (i j : Nat) (p : Pa), Ps[i]? = some p → j < 4 → (flA Ps)[i * 4 + j]? = p.cells[j]? := by
  induction Ps with
  | nil => intro i j p h; cases h
  | cons q Ps ih =>
    intro i j p h hj
    show (q.cells ++ flA Ps)[i * 4 + j]? = _
    cases i with
    | zero =>
      have h : q = p := Option.some.inj h
      rw [List.getElem?_append_left (by simp [Pa.cells]; omega), h]
      simp
    | succ i =>
      rw [List.getElem?_append_right (by simp [Pa.cells]; omega)]
      have e : (i + 1) * 4 + j - q.cells.length = i * 4 + j := by simp [Pa.cells]; omega
      rw [e]
      exact ih i j p h hj
/-- passes in a row of the call's own -/
structure OwPa (w : World) (lo : Nat) (a : Option Addr) (n c : Nat) (Ps : List Pa) : Prop where
  own : w.ownsRow 0 29 4 (.slice a n c) n (flA Ps)
  len : Ps.length = n
  new : ∀ g, (Value.slice a n c).ownBlock = some g → lo ≤ g
theorem OwPa.nil (w : World) (lo : Nat) : OwPa w lo none 0 0 [] := ⟨World.ownsRow_nil _ _ _ _, rfl, (fun g h => by cases h)⟩
theorem OwPa.keep {w w' : World} {lo : Nat} {a : Option Addr} {n c : Nat} {Ps : List Pa} (h : OwPa w lo a n c Ps) (hg : w.grownBy w' none) : OwPa w' lo a n c Ps :=
  ⟨h.own.kept hg (by cases (Value.slice a n c).ownBlock <;> simp), h.len, h.new⟩
def paD : Pa := ⟨0, 0, 1, 0⟩
theorem OwPa.rd {w : World} {lo : Nat} {a : Option Addr} {n c : Nat} {Ps : List Pa} (h : OwPa w lo a n c Ps) : RdPa w a n c (fun i => Ps.getD i paD) := by
  have hl := h.len
  rcases h.own.2 with ⟨h1, h2⟩ | ⟨g, cap', cur, h1, _, h3, h4, h5, h6, h7⟩
  · simp only [Value.slice.injEq] at h1
    obtain ⟨rfl, _, rfl⟩ := h1
    exact ⟨by omega, Nat.zero_le _, fun h0 => by omega⟩
  · simp only [Value.slice.injEq] at h1
    obtain ⟨rfl, _, rfl⟩ := h1
    refine ⟨h4, h5, fun h0 => ⟨g, 0, rfl, (Array.getElem?_eq_some_iff.1 h3).1, fun i hi j v hv => ?_⟩⟩
    have hj : j < 4 := (List.getElem?_eq_some_iff.1 hv).1
    have hp : Ps[i]? = some (Ps.getD i paD) := by rw [List.getD_eq_getElem?_getD, List.getElem?_eq_getElem (by omega)]; rfl
    rw [← flA_at Ps i j _ hp hj] at hv
    have := h.own.cells (g := g) rfl (i * 4 + j) v hv
    rw [addr_add] at this
    rw [Nat.add_assoc]
    exact this
theorem wpList_psA {w : World} {ops : Array Oper} {rest : List Oper} {o : Oper} {a : Act} {Q : Exit → Act → World → Prop} (hg : o.guard = none) (s x : Operand)
    (hop : o.op = Op.call { callee := .builtin .append, args := #[s, x], argTypes := #[22, 22] }) (ao : Option Addr) (n c lo : Nat) (Ps : List Pa) (hs : a.eval s = .slice ao n c)
    (hA : OwPa w lo ao n c Ps) (hlo : lo ≤ w.heap.size) (gA : Nat) (p : Pa) (hx : a.eval x = .slice (some ⟨gA, 0, none⟩) 1 1) (bA : BxS w gA 29 p.arr) (hm : n ≤ 100000)
    (hK : ∀ a' c' w', OwPa w' lo a' (n + 1) c' (Ps ++ [p]) → w.grownBy w' (Value.slice ao n c).ownBlock → wpList Try.prog ops Q rest (a.put o.dst (.slice a' (n + 1) c')) w') :
    wpList Try.prog ops Q (o :: rest) a w := by
  obtain ⟨i0, hi, hz0, hz1, hz2⟩ := info_parts Try.info_paF
  refine wpList_apS w hg s x 22 29 i0 _ 4 32 Try.underlying22 hi hz0 hz1 hz2 rfl (by decide) hop (.slice ao n c) n (flA Ps) hs hA.own ⟨gA, 0, none⟩ 1 1 p.cells hx rfl ?_ (by intro u hu; simp only [Pa.cells, List.mem_cons, List.not_mem_nil, or_false] at hu; rcases hu with rfl | rfl | rfl | rfl <;> rfl) (by decide) (by unfold maxLen; omega) (by omega) ?_
  · intro j u hu
    rw [addr_add, cell_of_row _ _ _ _ _ _ bA, Nat.zero_add]
    have : p.cells[j]? = p.arr[j]? := by unfold Pa.cells Pa.arr; simp
    rw [← this]
    exact hu
  · intro gx cx w8 hor u8 hO8
    refine hK _ cx w8 ⟨by unfold flA at hO8 ⊢; rw [List.flatMap_append]; simpa using hO8, by rw [List.length_append, hA.len]; rfl, fun y hy => ?_⟩ u8
    have e : gx = y := Option.some.inj hy
    subst e
    rcases hor with h | h
    · exact hA.new gx h
    · omega
end
end Go.Proofs.Ytpcejajijaphbaa
