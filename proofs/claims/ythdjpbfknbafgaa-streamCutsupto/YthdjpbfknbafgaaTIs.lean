import Derived.Test.YthdjpbfknbafgaaFB2
import Derived.LaidEql
import Derived.Stop.Asserts
import Derived.RowKitTokens
import Derived.Lib.IfaceEq
namespace Go.Proofs.Ythdjpbfknbafgaa
open Go.RowKit Go.Extern.Stop Go.Stop Go.Extern
set_option maxRecDepth 100000
set_option linter.unusedVariables false
set_option linter.unusedSimpArgs false

theorem Try.isTypeOf (v : Value) (w : World) : (Extern.ReflectliteType.typeOf #[.iface 29 v]).run Try.prog w = .ok (.iface 81 (.agg #[.pointer (some ⟨0, 29, none⟩)])) w := by kernel_rfl
theorem Try.cmpEx : ∃ f : Array Value → Sem Value, find Try.f64 = some f ∧ ∀ w, (f #[.agg #[.pointer (some ⟨0, 29, none⟩)]]).run Try.prog w = .ok (.bool true) w := by
  have hs : (find Try.f64).isSome = true := by kernel_rfl
  have hr : ∀ w, (((find Try.f64).getD (fun _ => pure undef)) #[.agg #[.pointer (some ⟨0, 29, none⟩)]]).run Try.prog w = .ok (.bool true) w := fun w => by kernel_rfl
  cases h : find Try.f64 with
  | none => rw [h] at hs; cases hs
  | some f => exact ⟨f, rfl, fun w => by have := hr w; rw [h] at this; exact this⟩
theorem Try.isMethod (v : Value) (w : World) : (Go.method 228 81 v "Comparable").run Try.prog w = .ok (64, v) w := by kernel_rfl
theorem Try.noIs (v : Value) (xT : TypeId) (w : World) : (Instr.typeAssert (.iface 29 v) xT 83 true).run Try.prog w = .ok (.tuple #[.nilIface, .bool false]) w := run_typeAssert_lacksB Try.underlying83 (by kernel_rfl) (by kernel_rfl) v xT w
theorem Try.noUnwrap (v : Value) (xT : TypeId) (w : World) : (Instr.typeAssert (.iface 29 v) xT 86 true).run Try.prog w = .ok (.tuple #[.nilIface, .bool false]) w := run_typeAssert_lacksB Try.underlying86 (by kernel_rfl) (by kernel_rfl) v xT w
theorem Try.noUnwraps (v : Value) (xT : TypeId) (w : World) : (Instr.typeAssert (.iface 29 v) xT 88 true).run Try.prog w = .ok (.tuple #[.nilIface, .bool false]) w := run_typeAssert_lacksB Try.underlying88 (by kernel_rfl) (by kernel_rfl) v xT w
theorem Try.errComp : (Try.prog.info? 29).map (·.comparable) = some true := by kernel_rfl
theorem is_errno (x y : Int) (w : World) : Calls Try.prog 26 #[.iface 29 (.int .i64 x), .iface 29 (.int .i64 y)] w fun e w' => e = .returned (.bool (decide (x = y))) ∧ w' = w := by
  have h8 := @run_callFunc_extern Try.prog 33 _ Extern.ReflectliteType.typeOf Try.func33 (by kernel_rfl) (by kernel_rfl) (by kernel_rfl) (by kernel_rfl)
  obtain ⟨cmpX, hcf, cT⟩ := Try.cmpEx
  have h32 := @run_callFunc_extern Try.prog 64 _ cmpX Try.func64 (by kernel_rfl) (by kernel_rfl) (by kernel_rfl) hcf
  have tT := Try.isTypeOf
  have mR := Try.isMethod
  have nE := Try.noIs
  have uE := Try.noUnwrap
  have vE := Try.noUnwraps
  have heq := fun w => Lib.run_eql_iface_int (P := Try.prog) w (t := 50) (tx := 29) (k := .i64) (q := .i64) x y Try.underlying50 Try.errComp Try.underlying29
  go_enter Try.func26, Try.ntmps26
  go_wp2
  refine wp_loop_rounds 1 ?_
  rw [rounds_succ]
  by_cases hxy : x = y
  · subst hxy
    go_wp2
    go_ret
    exact ⟨by simp, rfl⟩
  · have hne : (x == y) = false := by simp [hxy]
    go_wp2
    go_ret
    exact ⟨by simp [hxy], rfl⟩
end Go.Proofs.Ythdjpbfknbafgaa
