import Derived.Test.YtkfgchngndppiaaULa
import Derived.Test.YtkfgchngndppiaaZAs
import Derived.Test.YtkfgchngndppiaaZRs
namespace Go.Proofs.Ytkfgchngndppiaa
open Go.RowKit
set_option maxRecDepth 100000
set_option linter.unusedVariables false
set_option linter.unusedSimpArgs false

/-- 'append(v, m)' of monitors, in a region that draws -/
theorem step_psM (w : World) (lo : Nat) (F : Nat → Mo) {ops : Array Oper} {o : Oper} {a : Act} {K : Act → World → Prop} {Q : Exit → Act → World → Prop} {E : Prop} (hg : o.guard = none) (s x : Operand)
    (hop : o.op = Op.call { callee := .builtin .append, args := #[s, x], argTypes := #[22, 22] }) (ao : Option Addr) (m co : Nat) (hs : a.eval s = .slice ao m co)
    (hA : OwM w lo ao m co F) (hlo : lo ≤ w.heap.size) (hx : a.eval x = .slice (some ⟨w.heap.size, 0, none⟩) 1 1) (hb : m + 1 ≤ 1000000) (cs : Array Value) (hcs : cs = (F m).cells.toArray)
    (hK : ∀ gx cx w', OwM w' lo (some ⟨gx, 0, none⟩) (m + 1) cx F → w.grownBy w' (Value.slice ao m co).ownBlock → ((Value.slice ao m co).ownBlock = some gx ∨ w.heap.size ≤ gx) → K (a.put o.dst (.slice (some ⟨gx, 0, none⟩) (m + 1) cx)) w') :
    if Region.wanted o (yielded ops a.tmps) = true then Oper.wp Try.prog o a (w.alloc (.cells cs 51)) K Q else E := by
  subst hcs
  obtain ⟨i0, hi, hz0, hz1, hz2⟩ := info_parts Try.info_mo
  have gA := World.grownBy_alloc w (.cells (F m).cells.toArray 51) none
  refine step_apS _ hg s x 22 51 i0 _ 6 56 Try.underlying22 hi hz0 hz1 hz2 rfl (by decide) hop (.slice ao m co) m (flM F m) hs (hA.own.alloc _) ⟨w.heap.size, 0, none⟩ 1 1 (F m).cells hx rfl (six_row w (F m)) (by simp [Mo.cells, Value.oneCell']) (by decide) (by unfold maxLen; omega) (by omega) ?_
  intro gx cx w' hgx hgr hown
  have hsz := gA.size
  have hor : (Value.slice ao m co).ownBlock = some gx ∨ w.heap.size ≤ gx := by
    rcases hgx with h | h
    · exact .inl h
    · exact .inr (by omega)
  exact hK gx cx w' (hA.of_app hlo hor hown) (grown_trans (grown_weak gA _) hgr) hor
end Go.Proofs.Ytkfgchngndppiaa
