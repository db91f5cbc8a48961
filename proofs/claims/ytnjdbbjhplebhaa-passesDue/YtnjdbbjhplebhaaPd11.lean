import Derived.OpenShut
import Derived.Test.YtnjdbbjhplebhaaPd10
import Derived.Test.YtnjdbbjhplebhaaPd1
import Derived.Deep.CutBlock
namespace Go.Proofs.Ytnjdbbjhplebhaa
open Go.RowKit
set_option maxRecDepth 100000
set_option linter.unusedVariables false
set_option linter.unusedSimpArgs false

section
def pkL (x : Int) (m : Nat) : Nat := ((if x < 0 then -(x + 1) else x) % (m : Int)).toNat
theorem pkL_lt (x : Int) (m : Nat) (h : 0 < m) : pkL x m < m := by
  unfold pkL
  have := Int.emod_lt_of_pos (if x < 0 then -(x + 1) else x) (show (0 : Int) < (m : Int) by omega)
  have := Int.emod_nonneg (if x < 0 then -(x + 1) else x) (show (m : Int) ≠ 0 by omega)
  omega
theorem pickL_any (n : Int) (m : Nat) (w : World) (h1 : -9223372036854775808 ≤ n ∧ n ≤ 9223372036854775807) (ho : 0 < m) (ho2 : m ≤ 9223372036854775807) :
    Calls Try.prog 11 #[.int .i64 n, .int .i64 m] w fun e w' => e = .returned (.int .i64 (pkL n m : Nat)) ∧ w' = w := by
  obtain ⟨h1, h2⟩ := h1
  have hnz : ¬ (m : Int) = 0 := by omega
  by_cases hn : n < 0
  · go_enter Try.func11, Try.ntmps11
    go_wp2
    go_ret
    have p1 := Int.emod_nonneg (-(n + 1)) (show (m : Int) ≠ 0 by omega)
    have e : -((n + 1).tmod m) = (-(n + 1)) % m := by rw [← Int.neg_tmod, Int.tmod_eq_emod_of_nonneg (by omega)]
    refine ⟨?_, rfl⟩
    refine congrArg (fun z => Ending.returned (Value.int .i64 z)) (?_ : -((n + 1).tmod m) = _)
    rw [e]
    unfold pkL
    rw [if_pos hn]
    omega
  · go_enter Try.func11, Try.ntmps11
    go_wp2
    go_ret
    have p1 := Int.emod_nonneg n (show (m : Int) ≠ 0 by omega)
    refine ⟨?_, rfl⟩
    refine congrArg (fun z => Ending.returned (Value.int .i64 z)) (?_ : n % m = _)
    unfold pkL
    rw [if_neg (by omega)]
    omega
def ok64 (x : Int) : Prop := -9223372036854775808 ≤ x ∧ x ≤ 9223372036854775807
def cel2 (p : Int × Int) : List Value := [.int .i64 p.1, .int .i64 p.2]
def cel1 (p : Int) : List Value := [.int .i64 p]
structure RdTu (w : World) (a : Option Addr) (n cap : Nat) (K : Nat → Int × Int) : Prop where
  le : n ≤ cap
  max : cap ≤ maxLen
  at' : 0 < n → ∃ b off, a = some ⟨b, off, none⟩ ∧ b < w.heap.size ∧ ∀ i, i < n → ∀ j, j < 2 → w.cell? ⟨b, off + (i * 2 + j), none⟩ = (cel2 (K i))[j]?
  ok : ∀ i, i < n → (ok64 (K i).1 ∧ ok64 (K i).2)
structure RdIn (w : World) (a : Option Addr) (n cap : Nat) (K : Nat → Int) : Prop where
  le : n ≤ cap
  max : cap ≤ maxLen
  at' : 0 < n → ∃ b off, a = some ⟨b, off, none⟩ ∧ b < w.heap.size ∧ ∀ i, i < n → ∀ j, j < 1 → w.cell? ⟨b, off + (i * 1 + j), none⟩ = (cel1 (K i))[j]?
  ok : ∀ i, i < n → ok64 (K i)
theorem met_turns {w : World} {full : Bool} {n : Nat} {cs : List Value} (h : (Sh.fcons 1 (.int .i64) (.fcons 1 (.int .i64) .fend)).met w full cs n) : ∃ p : Int × Int, cs = cel2 p ∧ ok64 p.1 ∧ ok64 p.2 := by
  obtain ⟨n0, m0, rfl, ⟨_, a, e0, k0⟩, n1, m1, rfl, ⟨_, b, e1, k1⟩, e2, _⟩ := h
  refine ⟨(a, b), ?_, bounds_i64 k0, bounds_i64 k1⟩
  unfold cel2
  match cs with
  | [] => simp at e0
  | [_] => simp at e1
  | [x0, x1] => simp_all
  | x0 :: x1 :: x2 :: r => simp at e2
theorem met_intsR {w : World} {full : Bool} {n : Nat} {cs : List Value} (h : (Sh.int .i64).met w full cs n) : ∃ p : Int, cs = cel1 p ∧ ok64 p := by
  obtain ⟨_, a, e0, k0⟩ := h
  exact ⟨a, e0, bounds_i64 k0⟩
theorem shown_turns {w : World} {full : Bool} {N : Nat} {v : Value} (h : (Sh.slice 2 16 (Sh.fcons 1 (.int .i64) (.fcons 1 (.int .i64) .fend))).shown w full v N) : ∃ a len cap K, v = .slice a len cap ∧ RdTu w a len cap K := by
  have h : (Sh.slice 2 16 (Sh.fcons 1 (.int .i64) (.fcons 1 (.int .i64) .fend))).met w full [v] N := h
  rcases h with ⟨rfl, e⟩ | ⟨x, len, cap, G, C, e, e', hl, hm, hf, hc⟩
  · cases e
    exact ⟨none, 0, 0, fun _ => (0, 0), rfl, ⟨Nat.le_refl _, Nat.zero_le _, (fun h => by omega), (fun i h => by omega)⟩⟩
  · cases e
    have each : ∀ i, i < cap → ∃ p : Int × Int, (∀ j, j < 2 → w.cell? (x.add (i * 2 + j)) = (cel2 p)[j]?) ∧ (ok64 p.1 ∧ ok64 p.2) := by
      intro i hi
      obtain ⟨h1, h2, h3⟩ := hc i hi
      obtain ⟨p, e, hp⟩ := met_turns h3
      refine ⟨p, fun j hj => ?_, hp⟩
      rw [h2 j hj, e]
    have hI : Inhabited (Int × Int) := ⟨(0, 0)⟩
    obtain ⟨K, hK⟩ := Go.Deep.choose_lt each
    refine ⟨some x, len, cap, K, rfl, ⟨hl, hm, fun h0 => ?_, fun i hi => (hK i (by omega)).2⟩⟩
    obtain ⟨b, off, spot⟩ := x
    have hc0 := (hK 0 (by omega)).1 0 (by decide)
    have h0' : w.cell? (⟨b, off, spot⟩ : Addr) = some (.int .i64 (K 0).1) := by simpa [Addr.add, cel1, cel2] using hc0
    have hspot : spot = none := by simpa using World.cell?_spot h0'
    subst hspot
    refine ⟨b, off, rfl, World.block_lt_of_cell? w _ h0', fun i hi j hj => ?_⟩
    rw [← addr_add]
    exact (hK i (by omega)).1 j hj
theorem shown_intsR {w : World} {full : Bool} {N : Nat} {v : Value} (h : (Sh.slice 1 8 (Sh.int .i64)).shown w full v N) : ∃ a len cap K, v = .slice a len cap ∧ RdIn w a len cap K := by
  have h : (Sh.slice 1 8 (Sh.int .i64)).met w full [v] N := h
  rcases h with ⟨rfl, e⟩ | ⟨x, len, cap, G, C, e, e', hl, hm, hf, hc⟩
  · cases e
    exact ⟨none, 0, 0, fun _ => 0, rfl, ⟨Nat.le_refl _, Nat.zero_le _, (fun h => by omega), (fun i h => by omega)⟩⟩
  · cases e
    have each : ∀ i, i < cap → ∃ p : Int, (∀ j, j < 1 → w.cell? (x.add (i * 1 + j)) = (cel1 p)[j]?) ∧ ok64 p := by
      intro i hi
      obtain ⟨h1, h2, h3⟩ := hc i hi
      obtain ⟨p, e, hp⟩ := met_intsR h3
      refine ⟨p, fun j hj => ?_, hp⟩
      rw [h2 j hj, e]
    have hI : Inhabited Int := ⟨0⟩
    obtain ⟨K, hK⟩ := Go.Deep.choose_lt each
    refine ⟨some x, len, cap, K, rfl, ⟨hl, hm, fun h0 => ?_, fun i hi => (hK i (by omega)).2⟩⟩
    obtain ⟨b, off, spot⟩ := x
    have hc0 := (hK 0 (by omega)).1 0 (by decide)
    have h0' : w.cell? (⟨b, off, spot⟩ : Addr) = some (.int .i64 (K 0)) := by simpa [Addr.add, cel1, cel2] using hc0
    have hspot : spot = none := by simpa using World.cell?_spot h0'
    subst hspot
    refine ⟨b, off, rfl, World.block_lt_of_cell? w _ h0', fun i hi j hj => ?_⟩
    rw [← addr_add]
    exact (hK i (by omega)).1 j hj

def cells3 (x : Jb) : List Value := (tJ x).cells
def flT (P : List Jb) : List Value := P.flatMap cells3
theorem flT_at (P : List Jb) : ∀ (i j : Nat) (p : Jb), P[i]? = some p → j < 3 → (flT P)[i * 3 + j]? = (cells3 p)[j]? := by
  induction P with
  | nil => intro i j p h; cases h
  | cons q P ih =>
    intro i j p h hj
    show (cells3 q ++ flT P)[i * 3 + j]? = _
    have hq : (cells3 q).length = 3 := rfl
    cases i with
    | zero =>
      have h : q = p := Option.some.inj h
      rw [List.getElem?_append_left (by rw [hq]; omega), h]
      simp
    | succ i =>
      rw [List.getElem?_append_right (by rw [hq]; omega)]
      have e : (i + 1) * 3 + j - (cells3 q).length = i * 3 + j := by rw [hq]; omega
      rw [e]
      exact ih i j p h hj
/-- windows or jobs in a row of the call's own -/
structure OwT3 (t : TypeId) (w : World) (lo : Nat) (a : Option Addr) (n c : Nat) (W : Nat → Jb) : Prop where
  own : w.ownsRow 0 t 3 (.slice a n c) n (flT ((List.range n).map W))
  new : ∀ g, (Value.slice a n c).ownBlock = some g → lo ≤ g
theorem OwT3.nil (t : TypeId) (w : World) (lo : Nat) (W : Nat → Jb) : OwT3 t w lo none 0 0 W := ⟨World.ownsRow_nil _ _ _ _, (fun g h => by cases h)⟩
theorem OwT3.keep {t : TypeId} {w w' : World} {lo : Nat} {a : Option Addr} {n c : Nat} {W : Nat → Jb} (h : OwT3 t w lo a n c W) (hg : w.grownBy w' none) : OwT3 t w' lo a n c W :=
  ⟨h.own.kept hg (by cases (Value.slice a n c).ownBlock <;> simp), h.new⟩
theorem OwT3.keepR {t : TypeId} {w w' : World} {lo : Nat} {a : Option Addr} {n c : Nat} {W : Nat → Jb} {r : Option Nat} (h : OwT3 t w lo a n c W) (hg : w.grownBy w' r) (hr : (Value.slice a n c).ownBlock = none ∨ (Value.slice a n c).ownBlock ≠ r) : OwT3 t w' lo a n c W :=
  ⟨h.own.kept hg hr, h.new⟩
theorem OwT3.rd {t : TypeId} {w : World} {lo : Nat} {a : Option Addr} {n c : Nat} {W : Nat → Jb} (h : OwT3 t w lo a n c W) : RdT w a n c (fun i => tJ (W i)) := by
  rcases h.own.2 with ⟨h1, h2⟩ | ⟨g, cap', cur, h1, _, h3, h4, h5, h6, h7⟩
  · simp only [Value.slice.injEq] at h1
    obtain ⟨rfl, _, rfl⟩ := h1
    exact ⟨by omega, Nat.zero_le _, fun h0 => by omega⟩
  · simp only [Value.slice.injEq] at h1
    obtain ⟨rfl, _, rfl⟩ := h1
    refine ⟨h4, h5, fun h0 => ⟨g, 0, rfl, (Array.getElem?_eq_some_iff.1 h3).1, fun i hi j v hv => ?_⟩⟩
    have hj : j < 3 := (List.getElem?_eq_some_iff.1 hv).1
    have hp : ((List.range n).map W)[i]? = some (W i) := by simp [hi]
    have hv : (cells3 (W i))[j]? = some v := hv
    rw [← flT_at _ i j _ hp hj] at hv
    have := h.own.cells (g := g) rfl (i * 3 + j) v hv
    rw [addr_add] at this
    rw [Nat.add_assoc]
    exact this
theorem info_parts3 {t : TypeId} (h : (Try.prog.info? t).map (fun i => (i.zero, i.size, i.bytes)) = some (some (.agg #[.int .i64 0, .int .i64 0, .int .i64 0]), 3, 24)) : ∃ i, Try.prog.info? t = some i ∧ i.zero = some (.agg #[.int .i64 0, .int .i64 0, .int .i64 0]) ∧ i.size = 3 ∧ i.bytes = 24 := info_parts h
theorem wpList_psT3 {w : World} {ops : Array Oper} {rest : List Oper} {o : Oper} {ac : Act} {Q : Exit → Act → World → Prop} (hg : o.guard = none) (s x : Operand) (ts t : TypeId) (ht : Try.prog.underlying ts = some (.slice t))
    (hi : (Try.prog.info? t).map (fun i => (i.zero, i.size, i.bytes)) = some (some (.agg #[.int .i64 0, .int .i64 0, .int .i64 0]), 3, 24))
    (hop : o.op = Op.call { callee := .builtin .append, args := #[s, x], argTypes := #[ts, ts] }) (a : Option Addr) (n c lo : Nat) (W : Nat → Jb) (hs : ac.eval s = .slice a n c)
    (hA : OwT3 t w lo a n c W) (hlo : lo ≤ w.heap.size) (gA : Nat) (hx : ac.eval x = .slice (some ⟨gA, 0, none⟩) 1 1) (bA : BxS w gA t (cells3 (W n)).toArray) (hm : n ≤ 100000)
    (hK : ∀ a' c' w', OwT3 t w' lo a' (n + 1) c' W → (∀ g, (Value.slice a' (n + 1) c').ownBlock = some g → (Value.slice a n c).ownBlock = some g ∨ w.heap.size ≤ g) → w.grownBy w' (Value.slice a n c).ownBlock → wpList Try.prog ops Q rest (ac.put o.dst (.slice a' (n + 1) c')) w') :
    wpList Try.prog ops Q (o :: rest) ac w := by
  obtain ⟨i0, hi, hz0, hz1, hz2⟩ := info_parts3 hi
  refine wpList_apS w hg s x ts t i0 _ 3 24 ht hi hz0 hz1 hz2 rfl (by decide) hop (.slice a n c) n (flT ((List.range n).map W)) hs hA.own ⟨gA, 0, none⟩ 1 1 (cells3 (W n)) hx rfl ?_ (by intro u hu; simp only [cells3, T3.cells, List.mem_cons, List.not_mem_nil, or_false] at hu; rcases hu with rfl | rfl | rfl <;> rfl) (by decide) (by unfold maxLen; omega) (by omega) ?_
  · intro j u hu
    rw [addr_add, cell_of_row _ _ _ _ _ _ bA, Nat.zero_add, List.getElem?_toArray]
    exact hu
  · intro gx cx w8 hor u8 hO8
    refine hK (some ⟨gx, 0, none⟩) cx w8 ⟨?_, fun g h => ?_⟩ (fun g h => ?_) u8
    · have e : flT ((List.range (n + 1)).map W) = flT ((List.range n).map W) ++ cells3 (W n) := by simp [flT, List.range_succ]
      rw [e]
      exact hO8
    · have e : gx = g := Option.some.inj h
      subst e
      rcases hor with h | h
      · exact hA.new gx h
      · omega
    · have e : gx = g := Option.some.inj h
      subst e
      exact hor
theorem Try.info_wdF : (Try.prog.info? 32).map (fun i => (i.zero, i.size, i.bytes)) = some (some (.agg #[.int .i64 0, .int .i64 0, .int .i64 0]), 3, 24) := by kernel_rfl
theorem Try.info_joF : (Try.prog.info? 34).map (fun i => (i.zero, i.size, i.bytes)) = some (some (.agg #[.int .i64 0, .int .i64 0, .int .i64 0]), 3, 24) := by kernel_rfl
end

section
def dW (K : Nat → Int × Int) (i : Nat) : Jb := ⟨pkL (K i).1 30, pkL (K i).1 30 + pkL (K i).2 10, 1 + pkL ((K i).2.tdiv 10) 4⟩
def dJ (M : Nat → Int × Int) (S : Nat → Int) (sn i : Nat) : Jb := ⟨pkL (M i).1 30, pkL (M i).1 30 + pkL (M i).2 10, if i < sn then pkL (S i) 12 else 0⟩
theorem dW_bd (K : Nat → Int × Int) (i : Nat) : (dW K i).fr ≤ 29 ∧ (dW K i).fr ≤ (dW K i).by' ∧ (dW K i).by' ≤ 38 ∧ (dW K i).by8 ≤ 4 := by
  have h1 := pkL_lt (K i).1 30 (by decide)
  have h2 := pkL_lt (K i).2 10 (by decide)
  have h3 := pkL_lt ((K i).2.tdiv 10) 4 (by decide)
  unfold dW
  dsimp only
  omega
theorem dJ_bd (M : Nat → Int × Int) (S : Nat → Int) (sn i : Nat) : (dJ M S sn i).fr ≤ 29 ∧ (dJ M S sn i).fr ≤ (dJ M S sn i).by' ∧ (dJ M S sn i).by' ≤ 38 ∧ (dJ M S sn i).by8 ≤ 11 := by
  have h1 := pkL_lt (M i).1 30 (by decide)
  have h2 := pkL_lt (M i).2 10 (by decide)
  have h3 := pkL_lt (S i) 12 (by decide)
  unfold dJ
  dsimp only
  split <;> omega
theorem d_may (K M : Nat → Int × Int) (S : Nat → Int) (sn wn jn : Nat) (hw : wn ≤ 6) (hj : jn ≤ 6) : MayS (dW K) (dJ M S sn) wn jn :=
  ⟨by omega, by omega, fun i _ => by have := dW_bd K i; omega, fun i => by have := dJ_bd M S sn i; omega⟩
theorem sumF_bd (f : Nat → Nat) (c : Nat) (h : ∀ i, f i ≤ c) (n : Nat) : sumF f n ≤ n * c := by
  induction n with
  | zero => simp [sumF]
  | succ n ih =>
    have h2 := h n
    have h3 : sumF f (n + 1) = sumF f n + f n := rfl
    rw [h3, Nat.succ_mul]
    exact Nat.add_le_add ih h2
/-- has a stretch of time room enough? -/
def okS (W J : Nat → Jb) (wn jn a b : Nat) : Prop := need J jn a b + sumF (rtW W wn) a ≤ sumF (rtW W wn) b
theorem can_fit (W J : Nat → Jb) (wn jn : Nat) (hJ : ∀ i, i < jn → (J i).fr ≤ (J i).by' ∧ (J i).by' ≤ 40) : fitB W J wn jn = true ↔ ∀ a, a ≤ 40 → ∀ b, a ≤ b → b ≤ 40 → okS W J wn jn a b := by
  rw [fit_iff W J wn jn (fun i hi => ⟨(hJ i hi).1, by have := (hJ i hi).2; omega⟩)]
  constructor
  · intro h a _ b hab _
    exact edf_need J jn (rtW W wn) h a b hab
  · intro h i hi
    refine Nat.eq_zero_of_not_pos fun hp => ?_
    obtain ⟨a, h1, h2⟩ := edf_miss J jn (rtW W wn) i hi hp
    have h3 := h a (by have := (hJ i hi).2; omega) (J i).by' h1 (hJ i hi).2
    unfold okS at h3
    omega
theorem gone_lo (W J : Nat → Jb) (wn jn i : Nat) : -1 ≤ goneN W J wn jn i := by
  obtain ⟨h1, h2⟩ := run_gone J jn (rtW W wn) i 20000
  unfold goneN
  by_cases h0 : (J i).by8 = 0
  · rw [h1 h0]; omega
  · obtain ⟨h3, h4⟩ := h2 (by omega)
    by_cases e : lf J jn (rtW W wn) 20000 i = 0
    · obtain ⟨s, _, h5, _⟩ := h4 e
      rw [h5]; omega
    · rw [h3 (by omega)]; omega
/-- so far all are in time -/
def inB (W J : Nat → Jb) (wn jn k : Nat) : Bool := (List.range k).all fun i => decide (0 ≤ goneN W J wn jn i) && decide (goneN W J wn jn i ≤ ((J i).by' : Int))
theorem inB_succ (W J : Nat → Jb) (wn jn k : Nat) : inB W J wn jn (k + 1) = (inB W J wn jn k && (decide (0 ≤ goneN W J wn jn k) && decide (goneN W J wn jn k ≤ ((J k).by' : Int)))) := by
  unfold inB
  rw [List.range_succ, List.all_append]
  simp
theorem inB_fit (W J : Nat → Jb) (wn jn : Nat) : inB W J wn jn jn = fitB W J wn jn := by
  unfold inB fitB
  refine List.all_congr rfl fun i => ?_
  have h := gone_lo W J wn jn i
  congr 1
  by_cases e : goneN W J wn jn i = -1
  · rw [decide_eq_true e, decide_eq_false (by omega)]; rfl
  · rw [decide_eq_false e, decide_eq_true (by omega)]; rfl
def W1 : Nat → Jb := fun _ => ⟨0, 9, 2⟩
def J1 : Nat → Jb := fun _ => ⟨0, 9, 3⟩
theorem may1 : MayS W1 J1 1 1 := ⟨by decide, by decide, fun i _ => by show 0 ≤ 9 ∧ 9 ≤ 20000 ∧ 2 ≤ 1000000; decide, fun i => by show 0 ≤ 9 ∧ 9 ≤ 20000 ∧ 3 ≤ 1000000; decide⟩
theorem gone1 : goneN W1 J1 1 1 0 = 2 := by
  rw [← gone_is W1 J1 1 1 may1.en]
  decide
/-- the row of rates within the round of one window -/
def rtP (W : Nat → Jb) (i t s : Nat) : Nat := rtW W i s + (if (W i).fr ≤ s ∧ s < t then (W i).by8 else 0)
theorem rtP_start (W : Nat → Jb) (i : Nat) : rtP W i (W i).fr = rtW W i := by
  funext s
  unfold rtP
  rw [if_neg (by omega)]
  rfl
theorem rtP_end (W : Nat → Jb) (i : Nat) : rtP W i (W i).by' = rtW W (i + 1) := rfl
theorem rtP_step (W : Nat → Jb) (i t : Nat) (h : (W i).fr ≤ t) : atG (fun s => (rtP W i t s : Int)) t ((rtP W i t t : Int) + ((W i).by8 : Int)) = fun s => (rtP W i (t + 1) s : Int) := by
  funext s
  unfold atG rtP
  rw [if_neg (by omega : ¬ ((W i).fr ≤ t ∧ t < t))]
  by_cases e : s = t
  · subst e
    rw [if_pos rfl, if_pos ⟨h, by omega⟩]
    omega
  · rw [if_neg e]
    dsimp only
    by_cases h2 : (W i).fr ≤ s ∧ s < t
    · rw [if_pos h2, if_pos ⟨h2.1, by omega⟩]
    · rw [if_neg h2, if_neg (by omega)]
theorem tdiv_ok (x : Int) (h : ok64 x) : ok64 (x.tdiv 10) := by
  unfold ok64 at *
  by_cases h0 : 0 ≤ x
  · rw [Int.tdiv_eq_ediv_of_nonneg h0]
    omega
  · have e : x.tdiv 10 = -((-x) / 10) := by
      rw [← Int.tdiv_eq_ediv_of_nonneg (by omega : 0 ≤ -x), Int.neg_tdiv, Int.neg_neg]
    rw [e]
    omega
end

section
set_option maxHeartbeats 32000000 in
theorem du_t45 {u0 u1 u2 u3 u4 u5 u6 u7 u8 u9 u10 u11 u12 u14 u15 u16 u18 u19 u20 u21 u22 u23 u24 u25 u27 u28 u29 u30 u31 u32 u33 u34 u35 u36 u37 u38 u39 u40 u41 u42 u43 u44 u45 u46 u47 u48 u49 u50 u51 u52 u53 u54 u55 u56 u57 u58 u59 u60 u61 u62 u63 u64 u65 u66 u67 u68 u69 u70 u71 u72 u73 u74 u75 u76 u77 u78 u79 u80 u81 u82 u83 u84 u85 u86 u87 u88 u89 u90 u91 u92 u93 u94 u95 u96 u97 u98 u99 u100 u101 u102 u103 u104 u105 u106 u107 u108 u109 u110 u111 u112 u113 u114 u115 u116 u117 u118 u119 u120 u121 u122 u123 u124 u125 u126 u127 u128 u129 u130 u131 u132 u133 u134 u135 u136 u137 u138 u139 u140 u141 u142 u143 u144 u145 u146 u147 u148 u149 u150 u151 u152 u153 u154 u155 u156 u157 u158 u159 u160 u161 u162 u163 u164 u165 u166 u167 u168 u169 u170 u171 u172 u173 u174 u175 u176 u177 u178 u179 u180 u181 u182 u183 u184 u185 u186 u187 u188 u189 u190 u191 u192 u193 u194 u195 u196 u197 u198 u199 u200 u201 u202 u203 u204 u205 u206 u207 u208 u209 u210 u211 u212 u213 u214 u215 u216 u217 u218 u219 u220 u221 u222 u223 u224 u225 u226 u227 u228 u229 u230 u231 u232 u233 u234 u235 u236 u237 u238 u239 u240 u241 u242 u243 u244 u245 u246 u247 u248 u249 u250 u251 u252 u253 u254 u255 u256 u257 u258 u259 u260 u261 u262 u263 u264 u265 u266 u267 u268 u269 u270 u271 : Value} (P : Ending → World → Prop) (w : World) (ja : Option Addr) (jn jc gg wn : Nat) (W J : Nat → Jb) (cb : Bool) (hJ : RdT w ja jn jc (fun i => tJ (J i))) (hG : InB w gg jn (goneN W J wn jn)) (hjn : jn ≤ 6) (hcb : cb = fitB W J wn jn) (hP : ∀ w', w.grownBy w' none → P (.returned (.bool true)) w') :
    Code.wp Try.prog (tailR 45 (Try.f4.body.getD .skip)) (bodyPost Try.prog Try.f4 P) (Act.mk (List.toArray (u0 :: u1 :: u2 :: u3 :: u4 :: u5 :: u6 :: u7 :: u8 :: u9 :: u10 :: u11 :: u12 :: (.slice ja jn jc) :: u14 :: u15 :: u16 :: (.bool cb) :: u18 :: u19 :: u20 :: u21 :: u22 :: u23 :: u24 :: u25 :: (.slice (some ⟨gg, 0, none⟩) jn jn) :: u27 :: u28 :: u29 :: u30 :: u31 :: u32 :: u33 :: u34 :: u35 :: u36 :: u37 :: u38 :: u39 :: u40 :: u41 :: u42 :: u43 :: u44 :: u45 :: u46 :: u47 :: u48 :: u49 :: u50 :: u51 :: u52 :: u53 :: u54 :: u55 :: u56 :: u57 :: u58 :: u59 :: u60 :: u61 :: u62 :: u63 :: u64 :: u65 :: u66 :: u67 :: u68 :: u69 :: u70 :: u71 :: u72 :: u73 :: u74 :: u75 :: u76 :: u77 :: u78 :: u79 :: u80 :: u81 :: u82 :: u83 :: u84 :: u85 :: u86 :: u87 :: u88 :: u89 :: u90 :: u91 :: u92 :: u93 :: u94 :: u95 :: u96 :: u97 :: u98 :: u99 :: u100 :: u101 :: u102 :: u103 :: u104 :: u105 :: u106 :: u107 :: u108 :: u109 :: u110 :: u111 :: u112 :: u113 :: u114 :: u115 :: u116 :: u117 :: u118 :: u119 :: u120 :: u121 :: u122 :: u123 :: u124 :: u125 :: u126 :: u127 :: u128 :: u129 :: u130 :: u131 :: u132 :: u133 :: u134 :: u135 :: u136 :: u137 :: u138 :: u139 :: u140 :: u141 :: u142 :: u143 :: u144 :: u145 :: u146 :: u147 :: u148 :: u149 :: u150 :: u151 :: u152 :: u153 :: u154 :: u155 :: u156 :: u157 :: u158 :: u159 :: u160 :: u161 :: u162 :: u163 :: u164 :: u165 :: u166 :: u167 :: u168 :: u169 :: u170 :: u171 :: u172 :: u173 :: u174 :: u175 :: u176 :: u177 :: u178 :: u179 :: u180 :: u181 :: u182 :: u183 :: u184 :: u185 :: u186 :: u187 :: u188 :: u189 :: u190 :: u191 :: u192 :: u193 :: u194 :: u195 :: u196 :: u197 :: u198 :: u199 :: u200 :: u201 :: u202 :: u203 :: u204 :: u205 :: u206 :: u207 :: u208 :: u209 :: u210 :: u211 :: u212 :: u213 :: u214 :: u215 :: u216 :: u217 :: u218 :: u219 :: u220 :: u221 :: u222 :: u223 :: u224 :: u225 :: u226 :: u227 :: u228 :: u229 :: u230 :: u231 :: u232 :: u233 :: u234 :: u235 :: u236 :: u237 :: u238 :: u239 :: u240 :: u241 :: u242 :: u243 :: u244 :: u245 :: u246 :: u247 :: u248 :: u249 :: u250 :: u251 :: u252 :: u253 :: u254 :: u255 :: u256 :: u257 :: u258 :: u259 :: u260 :: u261 :: u262 :: u263 :: u264 :: u265 :: u266 :: u267 :: u268 :: u269 :: u270 :: u271 :: [])) []) w := by
  conv => enter [2]; whnf
  have HP : Hid _ := hP
  have HCB : Hid _ := hcb
  have HJ0 : Hid _ := hJ
  have HG0 : Hid _ := hG
  clear hP hcb hJ hG
  refine wp_seq_k fun K0 hK0 => ?_
  have HK0 : Hid _ := hK0
  clear hK0
  go_wp2
  refine HK0.out _ _ ?_
  clear HK0
  refine wp_seq_k fun K1 hK1 => ?_
  have HK1 : Hid _ := hK1
  clear hK1
  go_wp2
  go_loopw [31, 30] (fun v31 v30 wr => ∃ (k : Nat) (bb : Bool), k ≤ jn ∧ v31 = .int .i64 (k : Nat) ∧ v30 = .bool bb ∧ Hid (bb = inB W J wn jn k) ∧ Hid (RdT wr ja jn jc (fun i => tJ (J i))) ∧ Hid (InB wr gg jn (goneN W J wn jn)) ∧ Hid (w.grownBy wr none)) (fun v31 v30 _ => jn - (intOf v31).toNat)
  case atStart => exact ⟨0, true, Nat.zero_le _, rfl, rfl, (rfl : _ = _), HJ0.out, HG0.out, World.grownBy.refl _ _⟩
  case round =>
    obtain ⟨k, bb, hk, rfl, rfl, hbb, hJ, hG, hgg⟩ := hrel
    by_cases hlt : k < jn
    · have lk : (k : Int) < (jn : Int) := by omega
      obtain ⟨b, off, ha, _, hr⟩ := hJ.out.at' (by omega)
      have hr := hr k hlt
      have c1 := hr 1 _ rfl
      simp only [tJ] at c1
      have y1 := InB.cell hG.out hlt
      have HSU : Hid (inB W J wn jn (k + 1) = (bb && (decide (0 ≤ goneN W J wn jn k) && decide (goneN W J wn jn k ≤ ((J k).by' : Int))))) := by show _ = _; rw [hbb.out]; exact inB_succ W J wn jn k
      obtain ⟨q, hq⟩ : ∃ q, q = goneN W J wn jn k := ⟨_, rfl⟩
      obtain ⟨t, ht⟩ : ∃ t, t = (J k).by' := ⟨_, rfl⟩
      rw [← hq, ← ht] at HSU
      rw [← hq] at y1
      rw [← ht] at c1
      have HK : Hid (k < jn) := hlt
      have HJN : Hid (jn ≤ 6) := hjn
      have HAA : Hid (ja = some ⟨b, off, none⟩) := ha
      subst ha
      clear hr hq ht hbb hlt
      cases bb with
      | false =>
        go_upto_region 49 with fail
        go_quiet (fail)
        have GQ := grown_drewN wr nq none
        generalize wr.drewN nq = w9 at *
        go_wp2
        exact ⟨⟨k + 1, false, HK.out, by go_num, rfl, by show _ = _; rw [HSU.out]; rfl, hJ.out.keep GQ, InB.keep hG.out GQ (by simp), grown_trans hgg.out GQ⟩, by have := HK.out; simp [intOf] <;> omega⟩
      | true =>
        by_cases h0 : 0 ≤ q
        · by_cases h1 : q ≤ (t : Int)
          · go_upto_region 49 with fail
            go_quiet (fail)
            have GQ := grown_drewN wr nq none
            generalize wr.drewN nq = w9 at *
            go_wp2
            exact ⟨⟨k + 1, true, HK.out, by go_num, rfl, by show _ = _; rw [HSU.out, decide_eq_true h0, decide_eq_true h1]; rfl, hJ.out.keep GQ, InB.keep hG.out GQ (by simp), grown_trans hgg.out GQ⟩, by have := HK.out; simp [intOf] <;> omega⟩
          · go_upto_region 49 with fail
            go_quiet (fail)
            have GQ := grown_drewN wr nq none
            generalize wr.drewN nq = w9 at *
            go_wp2
            exact ⟨⟨k + 1, false, HK.out, by go_num, rfl, by show _ = _; rw [HSU.out, decide_eq_true h0, decide_eq_false h1]; rfl, hJ.out.keep GQ, InB.keep hG.out GQ (by simp), grown_trans hgg.out GQ⟩, by have := HK.out; simp [intOf] <;> omega⟩
        · go_upto_region 49 with fail
          go_quiet (fail)
          have GQ := grown_drewN wr nq none
          generalize wr.drewN nq = w9 at *
          go_wp2
          exact ⟨⟨k + 1, false, HK.out, by go_num, rfl, by show _ = _; rw [HSU.out, decide_eq_false h0]; rfl, hJ.out.keep GQ, InB.keep hG.out GQ (by simp), grown_trans hgg.out GQ⟩, by have := HK.out; simp [intOf] <;> omega⟩
    · obtain rfl : jn = k := by omega
      have lk : ¬ (jn : Int) < (jn : Int) := by omega
      have e : bb = cb := by rw [hbb.out, inB_fit, HCB.out]
      subst e
      clear hbb HCB
      go_wp2
      (try simp only [Exit.inBlock, Exit.then])
      refine HK1.out _ _ ?_
      clear HK1
      go_wp2
      first | go_ret | skip
      exact HP.out _ hgg.out

theorem rd_one {w : World} {g : Nat} {t : TypeId} {x : Jb} (h : BxS w g t #[.int .i64 (x.fr : Nat), .int .i64 (x.by' : Nat), .int .i64 (x.by8 : Nat)]) : RdT w (some ⟨g, 0, none⟩) 1 1 (fun _ => tJ x) := by
  refine ⟨Nat.le_refl _, by decide, fun _ => ⟨g, 0, rfl, BxS.lt h, fun i hi j v hv => ?_⟩⟩
  obtain rfl : i = 0 := by omega
  rw [cell_of_row _ _ _ _ _ _ h]
  have hj : j < 3 := (List.getElem?_eq_some_iff.1 hv).1
  rw [← hv]
  obtain (rfl | rfl | rfl) : j = 0 ∨ j = 1 ∨ j = 2 := by omega
  all_goals rfl
set_option maxHeartbeats 32000000 in
theorem du_t40 {u0 u1 u2 u3 u4 u5 u6 u8 u9 u10 u11 u12 u14 u15 u16 u18 u19 u20 u21 u22 u23 u24 u25 u26 u27 u28 u29 u30 u31 u32 u33 u34 u35 u36 u37 u38 u39 u40 u41 u42 u43 u44 u45 u46 u47 u48 u49 u50 u51 u52 u53 u54 u55 u56 u57 u58 u59 u60 u61 u62 u63 u64 u65 u66 u67 u68 u69 u70 u71 u72 u73 u74 u75 u76 u77 u78 u79 u80 u81 u82 u83 u84 u85 u86 u87 u88 u89 u90 u91 u92 u93 u94 u95 u96 u97 u98 u99 u100 u101 u102 u103 u104 u105 u106 u107 u108 u109 u110 u111 u112 u113 u114 u115 u116 u117 u118 u119 u120 u121 u122 u123 u124 u125 u126 u127 u128 u129 u130 u131 u132 u133 u134 u135 u136 u137 u138 u139 u140 u141 u142 u143 u144 u145 u146 u147 u148 u149 u150 u151 u152 u153 u154 u155 u156 u157 u158 u159 u160 u161 u162 u163 u164 u165 u166 u167 u168 u169 u170 u171 u172 u173 u174 u175 u176 u177 u178 u179 u180 u181 u182 u183 u184 u185 u186 u187 u188 u189 u190 u191 u192 u193 u194 u195 u196 u197 u198 u199 u200 u201 u202 u203 u204 u205 u206 u207 u208 u209 u210 u211 u212 u213 u214 u215 u216 u217 u218 u219 u220 u221 u222 u223 u224 u225 u226 u227 u228 u229 u230 u231 u232 u233 u234 u235 u236 u237 u238 u239 u240 u241 u242 u243 u244 u245 u246 u247 u248 u249 u250 u251 u252 u253 u254 u255 u256 u257 u258 u259 u260 u261 u262 u263 u264 u265 u266 u267 u268 u269 u270 u271 : Value} (P : Ending → World → Prop) (w : World) (wa ja : Option Addr) (wn wc jn jc : Nat) (W J : Nat → Jb) (cb : Bool) (hW : RdT w wa wn wc (fun i => tJ (W i))) (hJ : RdT w ja jn jc (fun i => tJ (J i))) (hm : MayS W J wn jn) (hjn : jn ≤ 6) (hcb : cb = fitB W J wn jn) (hP : ∀ w', w.grownBy w' none → P (.returned (.bool true)) w') :
    Code.wp Try.prog (tailR 40 (Try.f4.body.getD .skip)) (bodyPost Try.prog Try.f4 P) (Act.mk (List.toArray (u0 :: u1 :: u2 :: u3 :: u4 :: u5 :: u6 :: (.slice wa wn wc) :: u8 :: u9 :: u10 :: u11 :: u12 :: (.slice ja jn jc) :: u14 :: u15 :: u16 :: (.bool cb) :: u18 :: u19 :: u20 :: u21 :: u22 :: u23 :: u24 :: u25 :: u26 :: u27 :: u28 :: u29 :: u30 :: u31 :: u32 :: u33 :: u34 :: u35 :: u36 :: u37 :: u38 :: u39 :: u40 :: u41 :: u42 :: u43 :: u44 :: u45 :: u46 :: u47 :: u48 :: u49 :: u50 :: u51 :: u52 :: u53 :: u54 :: u55 :: u56 :: u57 :: u58 :: u59 :: u60 :: u61 :: u62 :: u63 :: u64 :: u65 :: u66 :: u67 :: u68 :: u69 :: u70 :: u71 :: u72 :: u73 :: u74 :: u75 :: u76 :: u77 :: u78 :: u79 :: u80 :: u81 :: u82 :: u83 :: u84 :: u85 :: u86 :: u87 :: u88 :: u89 :: u90 :: u91 :: u92 :: u93 :: u94 :: u95 :: u96 :: u97 :: u98 :: u99 :: u100 :: u101 :: u102 :: u103 :: u104 :: u105 :: u106 :: u107 :: u108 :: u109 :: u110 :: u111 :: u112 :: u113 :: u114 :: u115 :: u116 :: u117 :: u118 :: u119 :: u120 :: u121 :: u122 :: u123 :: u124 :: u125 :: u126 :: u127 :: u128 :: u129 :: u130 :: u131 :: u132 :: u133 :: u134 :: u135 :: u136 :: u137 :: u138 :: u139 :: u140 :: u141 :: u142 :: u143 :: u144 :: u145 :: u146 :: u147 :: u148 :: u149 :: u150 :: u151 :: u152 :: u153 :: u154 :: u155 :: u156 :: u157 :: u158 :: u159 :: u160 :: u161 :: u162 :: u163 :: u164 :: u165 :: u166 :: u167 :: u168 :: u169 :: u170 :: u171 :: u172 :: u173 :: u174 :: u175 :: u176 :: u177 :: u178 :: u179 :: u180 :: u181 :: u182 :: u183 :: u184 :: u185 :: u186 :: u187 :: u188 :: u189 :: u190 :: u191 :: u192 :: u193 :: u194 :: u195 :: u196 :: u197 :: u198 :: u199 :: u200 :: u201 :: u202 :: u203 :: u204 :: u205 :: u206 :: u207 :: u208 :: u209 :: u210 :: u211 :: u212 :: u213 :: u214 :: u215 :: u216 :: u217 :: u218 :: u219 :: u220 :: u221 :: u222 :: u223 :: u224 :: u225 :: u226 :: u227 :: u228 :: u229 :: u230 :: u231 :: u232 :: u233 :: u234 :: u235 :: u236 :: u237 :: u238 :: u239 :: u240 :: u241 :: u242 :: u243 :: u244 :: u245 :: u246 :: u247 :: u248 :: u249 :: u250 :: u251 :: u252 :: u253 :: u254 :: u255 :: u256 :: u257 :: u258 :: u259 :: u260 :: u261 :: u262 :: u263 :: u264 :: u265 :: u266 :: u267 :: u268 :: u269 :: u270 :: u271 :: [])) []) w := by
  conv => enter [2]; whnf
  have F0 := fits_ok w wa ja wn wc jn jc W J hW hJ hm (sorts_small jn (by omega))
  rw [← hcb] at F0
  have S0 : ∀ w1, w.grownBy w1 none → _ := fun w1 g => share_ok w1 wa ja wn wc jn jc W J (hW.keep g) (hJ.keep g) hm (sorts_small jn (by omega))
  have HP : Hid _ := hP
  have HCB : Hid _ := hcb
  have HJ : Hid _ := hJ
  have HS0 : Hid _ := S0
  clear hP hcb hJ hW hm S0
  refine wp_seq_k fun K0 hK0 => ?_
  have HK0 : Hid _ := hK0
  clear hK0
  go_wp2_with (go_at_call 8; refine F0.mono ?_; rintro e w1 ⟨rfl, g1⟩)
  refine HK0.out _ _ ?_
  clear HK0
  refine wp_seq_k fun K1 hK1 => ?_
  have HK1 : Hid _ := hK1
  clear hK1
  have S1 := HS0.out w1 g1
  clear F0
  go_wp2_with (go_at_call 6; refine S1.mono ?_; rintro e w2 ⟨gg, rfl, hi2, hl2, g2⟩)
  refine HK1.out _ _ ?_
  clear HK1
  refine wp_seq_k fun K2 hK2 => ?_
  have HK2 : Hid _ := hK2
  clear hK2
  clear S1
  have GA := World.grownBy_alloc w2 (.cells #[.int .i64 0, .int .i64 9, .int .i64 2] 32) none
  have GB := World.grownBy_alloc (w2.alloc (.cells #[.int .i64 0, .int .i64 9, .int .i64 2] 32)) (.cells #[.int .i64 0, .int .i64 9, .int .i64 3] 34) none
  have ba := BxS.new w2 32 #[.int .i64 ((W1 0).fr : Nat), .int .i64 ((W1 0).by' : Nat), .int .i64 ((W1 0).by8 : Nat)]
  have bb := BxS.new (w2.alloc (.cells #[.int .i64 0, .int .i64 9, .int .i64 2] 32)) 34 #[.int .i64 ((J1 0).fr : Nat), .int .i64 ((J1 0).by' : Nat), .int .i64 ((J1 0).by8 : Nat)]
  have hsz : (w2.alloc (.cells #[.int .i64 0, .int .i64 9, .int .i64 2] 32)).heap.size = w2.heap.size + 1 := by simp
  rw [hsz] at bb
  have ba2 := BxS.keep ba GB (by simp)
  have R0 : Calls Try.prog 6 #[.slice (some ⟨w2.heap.size, 0, none⟩) 1 1, .slice (some ⟨w2.heap.size + 1, 0, none⟩) 1 1] ((w2.alloc (.cells #[.int .i64 0, .int .i64 9, .int .i64 2] 32)).alloc (.cells #[.int .i64 0, .int .i64 9, .int .i64 3] 34)) fun e w' => ∃ ga, e = .returned (.tuple #[.slice (some ⟨ga, 0, none⟩) 1 1, .int .i64 0]) ∧ InB w' ga 1 (goneN W1 J1 1 1) ∧ ((w2.alloc (.cells #[.int .i64 0, .int .i64 9, .int .i64 2] 32)).alloc (.cells #[.int .i64 0, .int .i64 9, .int .i64 3] 34)).heap.size ≤ ga ∧ ((w2.alloc (.cells #[.int .i64 0, .int .i64 9, .int .i64 2] 32)).alloc (.cells #[.int .i64 0, .int .i64 9, .int .i64 3] 34)).grownBy w' none :=
    share_ok _ _ _ 1 1 1 1 W1 J1 (rd_one (x := W1 0) ba2) (rd_one (x := J1 0) bb) may1 (sorts_small 1 (by decide))
  have GAB := grown_trans GA GB
  have HI2 : Hid _ := hi2
  have HGAB : Hid _ := GAB
  clear GA GB GAB ba bb ba2 hsz hi2 hl2
  go_wp2_with (go_at_call 6; refine R0.mono ?_; rintro e w3 ⟨g1a, rfl, hi3, hl3, g3⟩)
  refine HK2.out _ _ ?_
  clear HK2
  refine wp_seq_k fun K3 hK3 => ?_
  have HK3 : Hid _ := hK3
  clear hK3
  clear R0
  have y1 := InB.cell hi3 (i := 0) (by decide)
  rw [gone1] at y1
  have HG3 : Hid (w.grownBy w3 none) := grown_trans g1 (grown_trans g2 (grown_trans HGAB.out g3))
  have HI4 : Hid (InB w3 gg jn (goneN W J wn jn)) := InB.keep (InB.keep HI2.out HGAB.out (by simp)) g3 (by simp)
  clear hi3 hl3 g3 g1 g2
  go_wp2
  refine HK3.out _ _ ?_
  clear HK3
  exact du_t45 P w3 ja jn jc gg wn W J cb (HJ.out.keep HG3.out) HI4.out hjn HCB.out (fun w' g => HP.out w' (grown_trans HG3.out g))
end
end Go.Proofs.Ytnjdbbjhplebhaa
