import Derived.Test.YtmcadmndmafogaaZBx
import Derived.Test.YtmcadmndmafogaaTFrL
import Derived.Lib.AppendZerosOnto
namespace Go.Proofs.Ytmcadmndmafogaa
open Go.RowKit
set_option maxRecDepth 100000
set_option linter.unusedVariables false
set_option linter.unusedSimpArgs false

/-- 'append([]byte(nil), make([]byte, k)...)' -/
theorem wpList_apN (w : World) {ops : Array Oper} {rest : List Oper} {o : Oper} {a : Act} {Q : Exit → Act → World → Prop} (hg : o.guard = none) (s x : Operand)
    (hop : o.op = Op.call { callee := .builtin .append, args := #[s, x], argTypes := #[23, 3] }) (k : Nat) (hs : a.eval s = .slice none 0 0) (hx : a.eval x = .int .i64 (k : Int))
    (hk : 0 < k) (hb : k ≤ 140737488355328)
    (hK : ∀ cap w', k ≤ cap → w.grownBy w' none → w'.ownsRow 0 5 1 (.slice (some ⟨w.heap.size, 0, none⟩) 0 cap) 0 (bys []) →
      wpList Try.prog ops Q rest (a.put o.dst (.slice (some ⟨w.heap.size, 0, none⟩) k cap)) w') :
    wpList Try.prog ops Q (o :: rest) a w := by
  obtain ⟨i0, hi, hz, hsz, hby⟩ := info_parts Try.info_u8
  have hr := Lib.run_append_nil_zeros (P := Try.prog) w 23 3 o.type 5 i0 (.int .u8 0) .i64 .i64 Try.underlying23 Try.underlying3 hi hz k hk (by omega) (by omega) (by rw [hby]; omega)
  have hge := grownCap_ge w k 0 5
  refine Lib.wpList_append_run w hg s x 23 3 hop _ _ hs hx _ _ hr (hK _ _ hge ⟨rfl, rfl, rfl, by simp, fun j hj _ => (World.grownBy_alloc w.drew _ none).block j hj (by simp)⟩ ⟨rfl, .inr ⟨w.heap.size, _, _, rfl, Nat.zero_le _, heap_alloc_new w.drew _, Nat.zero_le _, grownCap_le_maxLen w k 0 5 (by unfold maxLen; omega), ?_, rfl⟩⟩)
  simp only [Array.size_append, size_zeroCells]
  show k * 1 + _ * 1 = _
  omega
set_option maxHeartbeats 2000000 in
theorem grow_nil (k : Nat) (w : World) (hk : 0 < k) (hb : k ≤ 140737488355328) :
    Calls Try.prog 48 #[.slice none 0 0, .int .i64 (k : Int)] w fun e w' => ∃ g cap, e = .returned (.slice (some ⟨g, 0, none⟩) 0 cap) ∧ Ans w' w.heap.size (some ⟨g, 0, none⟩) 0 cap [] ∧ w.grownBy w' none := by
  have d1 : decide ((k : Int) < 0) = false := decide_eq_false (by omega)
  have d2 : decide ((0 : Int) < (k : Int)) = true := decide_eq_true (by omega)
  go_enter Try.func48, Try.ntmps48
  go_wp2_with (at_builtin; refine wpList_apN _ rfl _ _ rfl k rfl rfl hk hb ?_; intro cap w1 hc g1 ho)
  go_ret
  exact ⟨_, _, rfl, ⟨ho, (fun x hx => by cases hx), fun g hg => by have e : w.heap.size = g := Option.some.inj hg; omega⟩, g1⟩
end Go.Proofs.Ytmcadmndmafogaa
