import Derived.Test.YthdjpbfknbafgaaTLa
import Derived.Test.YthdjpbfknbafgaaUGn
import Derived.Test.YthdjpbfknbafgaaZRy
namespace Go.Proofs.Ythdjpbfknbafgaa
open Go.RowKit Go.Shelf
set_option maxRecDepth 100000
set_option linter.unusedVariables false
set_option linter.unusedSimpArgs false
attribute [local go_sem] Oper.semAt_some

/-- a single step out of a row of steps -/
theorem step_of_listT {ops : Array Oper} {o : Oper} {a : Act} {w : World} {K : Act → World → Prop} {Q : Exit → Act → World → Prop} {E : Prop} (hg : o.guard = none) (h : wpList Try.prog ops (Exit.then K (fun _ _ _ => False)) [o] a w) :
    if Region.wanted o (yielded ops a.tmps) = true then Oper.wp Try.prog o a w K Q else E := by
  have hw : Region.wanted o (yielded ops a.tmps) = true := by simp [Region.wanted, hg]
  rw [if_pos hw]
  unfold wpList at h
  rw [if_pos hw] at h
  rcases h with h | ⟨_, a', w', h⟩
  · unfold Oper.wp at *
    generalize (execOp a.eval o).run Try.prog w = r at *
    cases r with
    | ok n w' =>
      cases n <;> simp only [Oper.upon] at h ⊢ <;>
        first
          | exact h
          | exact Calls.mono h (fun e w'' he => by
              cases e with
              | returned v => exact he
              | panicked c => exact he.elim
              | outgrown => obtain ⟨a', w', he⟩ := he; exact he.elim)
          | exact Rows.mono h (fun _ _ he => he)
    | halt x w' =>
      cases x <;> simp only [Oper.upon] at h ⊢ <;> first | exact h | exact h.elim
  · exact h.elim
/-- append one thing of one cell that lies somewhere -/
theorem wpList_psR (w : World) {t e : TypeId} {z : Value} {by' : Nat} (und : Try.prog.underlying t = some (.slice e)) (inf : (Try.prog.info? e).map (fun i => (i.zero, i.size, i.bytes)) = some (some z, 1, by')) (one : z.cells.size = 1) (hby : by' ≤ 24) (u : Value) (h1 : u.oneCell' = true)
    {ops : Array Oper} {rest : List Oper} {o : Oper} {a : Act} {Q : Exit → Act → World → Prop} (hg : o.guard = none) (s x : Operand) (hop : o.op = Op.call { callee := .builtin .append, args := #[s, x], argTypes := #[t, t] }) (ao : Option Addr) (m co lo : Nat) (D : List Value) (hs : a.eval s = .slice ao m co)
    (hA : AnsX e w lo ao m co D) (hlo : lo ≤ w.heap.size) (q : Nat) (hx : a.eval x = .slice (some ⟨q, 0, none⟩) 1 1) (hq : w.cell? ⟨q, 0, none⟩ = some u) (hb : m + 1 ≤ 5000000000000)
    (hK : ∀ gx cx w', AnsX e w' lo (some ⟨gx, 0, none⟩) (m + 1) cx (D ++ [u]) → w.grownBy w' (Value.slice ao m co).ownBlock → ((Value.slice ao m co).ownBlock = some gx ∨ w.heap.size ≤ gx) → wpList Try.prog ops Q rest (a.put o.dst (.slice (some ⟨gx, 0, none⟩) (m + 1) cx)) w') :
    wpList Try.prog ops Q (o :: rest) a w := by
  obtain ⟨i0, hi, hz0, hz1, hz2⟩ := info_parts inf
  have hle : (m + 1) * by' ≤ (m + 1) * 24 := Nat.mul_le_mul_left _ hby
  refine wpList_apG w hg s x t e i0 z 1 by' und hi hz0 hz1 hz2 one (by decide) hop (.slice ao m co) m D hs hA.own ⟨q, 0, none⟩ 1 1 [u] hx rfl ?_ (fun v hv => by rw [List.mem_singleton.1 hv]; exact h1) (by decide) (by unfold maxLen; omega) (by omega) ?_
  · intro j v hv
    cases j with
    | zero => rw [addr_add]; have e : u = v := Option.some.inj hv; rw [← e]; exact hq
    | succ j => cases hv
  · intro g c w' hgx hgr hown
    refine hK g c w' ⟨hown, fun v hv => ?_, fun y hy => ?_⟩ hgr hgx
    · rcases List.mem_append.1 hv with h | h
      · exact hA.one v h
      · rw [List.mem_singleton.1 h]; exact h1
    · have e' : g = y := Option.some.inj hy
      subst e'
      rcases hgx with h | h
      · exact hA.new g h
      · omega
theorem Try.inf_fs : (Try.prog.info? 33).map (fun i => (i.zero, i.size, i.bytes)) = some (some (.slice none 0 0), 1, 24) := by kernel_rfl
theorem Try.inf_bo : (Try.prog.info? 4).map (fun i => (i.zero, i.size, i.bytes)) = some (some (.bool false), 1, 1) := by kernel_rfl
end Go.Proofs.Ythdjpbfknbafgaa
