import Derived.Test.YtkfgchngndppiaaUGu
namespace Go.Proofs.Ytkfgchngndppiaa
open Go.RowKit
set_option maxRecDepth 100000
set_option linter.unusedVariables false
set_option linter.unusedSimpArgs false

def pkU (x : Int) (m : Nat) : Nat := ((if x < 0 then -(x + 1) else x) % (m : Int)).toNat
theorem pkU_lt (x : Int) (m : Nat) (h : 0 < m) : pkU x m < m := by
  unfold pkU
  have := Int.emod_lt_of_pos (if x < 0 then -(x + 1) else x) (show (0 : Int) < (m : Int) by omega)
  have := Int.emod_nonneg (if x < 0 then -(x + 1) else x) (show (m : Int) ≠ 0 by omega)
  omega
theorem pickU2_any (n : Int) (m : Nat) (w : World) (h1 : -9223372036854775808 ≤ n ∧ n ≤ 9223372036854775807) (ho : 0 < m) (ho2 : m ≤ 9223372036854775807) :
    Calls Try.prog 20 #[.int .i64 n, .int .i64 m] w fun e w' => e = .returned (.int .i64 (pkU n m : Nat)) ∧ w' = w := by
  obtain ⟨h1, h2⟩ := h1
  have hnz : ¬ (m : Int) = 0 := by omega
  by_cases hn : n < 0
  · go_enter Try.func20, Try.ntmps20
    go_wp2
    go_ret
    have p1 := Int.emod_nonneg (-(n + 1)) (show (m : Int) ≠ 0 by omega)
    have e : -((n + 1).tmod m) = (-(n + 1)) % m := by rw [← Int.neg_tmod, Int.tmod_eq_emod_of_nonneg (by omega)]
    refine ⟨?_, rfl⟩
    refine congrArg (fun z => Ending.returned (Value.int .i64 z)) (?_ : -((n + 1).tmod m) = _)
    rw [e]
    unfold pkU
    rw [if_pos hn]
    omega
  · go_enter Try.func20, Try.ntmps20
    go_wp2
    go_ret
    have p1 := Int.emod_nonneg n (show (m : Int) ≠ 0 by omega)
    refine ⟨?_, rfl⟩
    refine congrArg (fun z => Ending.returned (Value.int .i64 z)) (?_ : _ = _)
    unfold pkU
    rw [if_neg (by omega)]
    first
      | (rw [Int.tmod_eq_emod_of_nonneg (by omega)]; omega)
      | omega
/-- one figure -/
def fgB (k : Nat) : ByteArray := strB [48 + k]
theorem figures_any (k : Nat) (hk : k < 10) (w : World) : Calls Try.prog 21 #[.int .i64 (k : Int)] w fun e w' => e = .returned (.string (fgB k)) ∧ w.grownBy w' none := by
  have hki : (k : Int) < 10 := by omega
  have gA := World.grownBy_alloc w (.cells #[.int .u8 (48 + (k : Int))] 5) none
  have hR : Rd (w.alloc (.cells #[.int .u8 (48 + (k : Int))] 5)) (some ⟨w.heap.size, 0, none⟩) 1 1 [48 + k] := by
    refine ⟨rfl, Nat.le_refl _, by decide, (fun e => by cases e), ?_, fun _ => ⟨w.heap.size, 0, rfl, by simp, fun i hi => ?_⟩⟩
    · intro x hx
      rw [List.mem_singleton.1 hx]; omega
    · obtain rfl : i = 0 := by omega
      have b := BxS.new w 5 #[.int .u8 (48 + (k : Int))]
      exact (b.cell 0 (by show 0 < 1; decide)).trans (by
        show some (Value.int .u8 (48 + (k : Int))) = some (.int .u8 ((48 + k : Nat) : Int))
        simp)
  have hs := str_any _ _ _ _ _ hR
  clear hR
  generalize hw0 : w.alloc (.cells #[.int .u8 (48 + (k : Int))] 5) = w0 at *
  go_enter Try.func21, Try.ntmps21
  go_wp2
  go_ret
  exact ⟨rfl, gA⟩
/-- the monitors' names -/
def lmB (k : Nat) : ByteArray := ByteArray.mk #[109] ++ fgB k
theorem lmB_ok (k : Nat) (h : k < 8) : noB (lmB k) = true ∧ (lmB k).size = 2 := by
  match k, h with
  | 0, _ => decide +kernel
  | 1, _ => decide +kernel
  | 2, _ => decide +kernel
  | 3, _ => decide +kernel
  | 4, _ => decide +kernel
  | 5, _ => decide +kernel
  | 6, _ => decide +kernel
  | 7, _ => decide +kernel
  | k + 8, h => omega
/-- the law's monitors -/
def lmF (S : List Int) : Nat → Mo
  | 0 => ⟨0, 0, 9, 2, 3, ByteArray.mk #[98, 97, 100]⟩
  | k + 1 => ⟨(k : Int).tmod 3, 0, 9, 1 + (pkU (nthI S k) 6 : Nat), 1 + (pkU ((nthI S k).tdiv 7) 3 : Nat), lmB k⟩
/-- monitors in a row of the call's own -/
structure OwM (w : World) (lo : Nat) (a : Option Addr) (n cap : Nat) (F : Nat → Mo) : Prop where
  own : w.ownsRow 0 51 6 (.slice a n cap) n (flM F n)
  new : ∀ g, (Value.slice a n cap).ownBlock = some g → lo ≤ g
theorem OwM.nil (w : World) (lo : Nat) (F : Nat → Mo) : OwM w lo none 0 0 F := ⟨World.ownsRow_nil _ _ _ _, fun g h => by simp [Value.ownBlock] at h⟩
theorem OwM.kept {w w' : World} {lo : Nat} {a : Option Addr} {n cap : Nat} {F : Nat → Mo} {r : Option Nat} (h : OwM w lo a n cap F) (hg : w.grownBy w' r) (hne : (Value.slice a n cap).ownBlock = none ∨ (Value.slice a n cap).ownBlock ≠ r) : OwM w' lo a n cap F :=
  ⟨h.own.kept hg hne, h.new⟩
theorem OwM.keep {w w' : World} {lo : Nat} {a : Option Addr} {n cap : Nat} {F : Nat → Mo} (h : OwM w lo a n cap F) (hg : w.grownBy w' none) : OwM w' lo a n cap F :=
  h.kept hg (by cases (Value.slice a n cap).ownBlock <;> simp)
theorem OwM.max {w : World} {lo : Nat} {a : Option Addr} {n cap : Nat} {F : Nat → Mo} (h : OwM w lo a n cap F) : n ≤ cap ∧ cap ≤ maxLen := by
  rcases h.own.2 with ⟨h1, h2⟩ | ⟨g, cap', cur, h1, _, h3, h4, h5, _⟩
  · simp only [Value.slice.injEq] at h1; obtain ⟨_, h6, h7⟩ := h1; subst h6; subst h7; exact ⟨Nat.le_refl _, Nat.zero_le _⟩
  · simp only [Value.slice.injEq] at h1; obtain ⟨_, _, h7⟩ := h1; subst h7; exact ⟨h4, h5⟩
theorem OwM.rd {w : World} {lo : Nat} {a : Option Addr} {n cap : Nat} {F : Nat → Mo} (h : OwM w lo a n cap F) : RdM w a n cap F := by
  have hm := h.max
  rcases h.own.2 with ⟨h1, h2⟩ | ⟨g, cap', cur, h1, hb, h3, _⟩
  · simp only [Value.slice.injEq] at h1; obtain ⟨h5, h6, h7⟩ := h1; subst h5; subst h6; subst h7; exact RdM.nil0 w F
  · simp only [Value.slice.injEq] at h1; obtain ⟨h5, _, h7⟩ := h1; subst h5
    refine ⟨hm.1, hm.2, (fun e => by cases e), fun h0 => ⟨g, 0, rfl, (Array.getElem?_eq_some_iff.1 h3).1, fun i hi j hj => ?_⟩⟩
    have hc := flM_at F n i j hi hj
    have hj' : ∃ u, (F i).cells[j]? = some u := ⟨_, List.getElem?_eq_getElem (by show j < 6; exact hj)⟩
    obtain ⟨u, hu⟩ := hj'
    rw [hu] at hc ⊢
    have := h.own.cells (g := g) rfl (i * 6 + j) u hc
    rw [addr_add] at this
    exact this
theorem six_row (w : World) (m : Mo) : ∀ j u, m.cells[j]? = some u → (w.alloc (.cells m.cells.toArray 51)).cell? ((⟨w.heap.size, 0, none⟩ : Addr).add j) = some u := by
  intro j u hu
  rw [addr_add, Nat.zero_add]
  have b := BxS.new w 51 m.cells.toArray
  have hj : j < m.cells.length := (List.getElem?_eq_some_iff.1 hu).1
  rw [b.cell j (by simpa using hj)]
  rw [← hu]
  simp
theorem OwM.of_app {w w' : World} {lo : Nat} {ao : Option Addr} {n co : Nat} {F : Nat → Mo} (hA : OwM w lo ao n co F) (hlo : lo ≤ w.heap.size) {g cap : Nat} (hgx : (Value.slice ao n co).ownBlock = some g ∨ w.heap.size ≤ g)
    (hown : w'.ownsRow 0 51 6 (.slice (some ⟨g, 0, none⟩) (n + 1) cap) (n + 1) (flM F n ++ (F n).cells)) : OwM w' lo (some ⟨g, 0, none⟩) (n + 1) cap F := by
  refine ⟨by rw [flM_add]; exact hown, fun y hy => ?_⟩
  have e : g = y := Option.some.inj hy
  subst e
  rcases hgx with h | h
  · exact hA.new g h
  · omega
/-- 'append(v, m)' of monitors -/
theorem wpList_psM (w : World) (lo : Nat) (F : Nat → Mo) {ops : Array Oper} {rest : List Oper} {o : Oper} {a : Act} {Q : Exit → Act → World → Prop} (hg : o.guard = none) (s x : Operand)
    (hop : o.op = Op.call { callee := .builtin .append, args := #[s, x], argTypes := #[22, 22] }) (ao : Option Addr) (m co : Nat) (hs : a.eval s = .slice ao m co)
    (hA : OwM w lo ao m co F) (hlo : lo ≤ w.heap.size) (hx : a.eval x = .slice (some ⟨w.heap.size, 0, none⟩) 1 1) (hb : m + 1 ≤ 1000000) (cs : Array Value) (hcs : cs = (F m).cells.toArray)
    (hK : ∀ gx cx w', OwM w' lo (some ⟨gx, 0, none⟩) (m + 1) cx F → w.grownBy w' (Value.slice ao m co).ownBlock → ((Value.slice ao m co).ownBlock = some gx ∨ w.heap.size ≤ gx) → wpList Try.prog ops Q rest (a.put o.dst (.slice (some ⟨gx, 0, none⟩) (m + 1) cx)) w') :
    wpList Try.prog ops Q (o :: rest) a (w.alloc (.cells cs 51)) := by
  subst hcs
  obtain ⟨i0, hi, hz0, hz1, hz2⟩ := info_parts Try.info_mo
  have gA := World.grownBy_alloc w (.cells (F m).cells.toArray 51) none
  refine wpList_apS _ hg s x 22 51 i0 _ 6 56 Try.underlying22 hi hz0 hz1 hz2 rfl (by decide) hop (.slice ao m co) m (flM F m) hs (hA.own.alloc _) ⟨w.heap.size, 0, none⟩ 1 1 (F m).cells hx rfl (six_row w (F m)) (by simp [Mo.cells, Value.oneCell']) (by decide) (by unfold maxLen; omega) (by omega) ?_
  intro gx cx w' hgx hgr hown
  have hsz := gA.size
  have hor : (Value.slice ao m co).ownBlock = some gx ∨ w.heap.size ≤ gx := by
    rcases hgx with h | h
    · exact .inl h
    · exact .inr (by omega)
  exact hK gx cx w' (hA.of_app hlo hor hown) (grown_trans (grown_weak gA _) hgr) hor
end Go.Proofs.Ytkfgchngndppiaa
