import Derived.Test.YthdjpbfknbafgaaTNew
namespace Go.Proofs.Ythdjpbfknbafgaa
open Go.RowKit Go.Shelf
set_option maxRecDepth 100000
set_option linter.unusedVariables false
set_option linter.unusedSimpArgs false

theorem ruE_le (L F H M : Int) : ruE L F H M ≤ 2 := by
  unfold ruE
  split
  · decide
  · split <;> decide
theorem results_tmp4 {fn : Func} {p q r s : Tmp} (h : fn.results = #[.tmp p, .tmp q, .tmp r, .tmp s]) (tmps : Array Value) (P : Program) (w : World) :
    (results fn tmps).run P w = .ok (.tuple #[tmps.getD p undef, tmps.getD q undef, tmps.getD r undef, tmps.getD s undef]) w := by
  simp only [results, h]
  simp [Sem.run_bind, Result.andThen]
set_option maxHeartbeats 2000000 in
/-- a rule that may not be: its number, and nothing -/
theorem listen_bad (L F H M : Int) (ap : Option Addr) (np cp : Nat) (w : World) (hb : ruE L F H M ≠ 0) :
    Calls Try.prog 8 #[ruZ L F H M, .slice ap np cp] w fun e w' => e = .returned (.tuple #[.slice none 0 0, .slice none 0 0, .slice none 0 0, .int .i64 (ruE L F H M : Nat)]) ∧ w.grownBy w' none := by
  have hN := fun w1 => new_bad L F H M w1 hb
  have hle := ruE_le L F H M
  have hT := fun w1 => tellE_any (ruE L F H M) (by omega) (by omega) w1
  have gA := World.grownBy_alloc w (.cells #[.int .i64 L, .int .i64 F, .int .i64 H, .int .i64 M] 23) none
  generalize ruE L F H M = x at *
  unfold ruZ at hN ⊢
  go_enter Try.func8, Try.ntmps8
  go_wp2_with (first
    | (go_at_call 15; refine (hN _).mono ?_; rintro e w1 ⟨rfl, g1⟩)
    | (go_at_call 16; refine (hT _).mono ?_; rintro e w2 ⟨rfl, hw⟩; have hw := hw.symm; subst hw))
  exact bodyPost_ret (results_tmp4 (p := 4) (q := 5) (r := 6) (s := 7) (by kernel_rfl) _ _ _) rfl ⟨rfl, grown_trans gA g1⟩
end Go.Proofs.Ythdjpbfknbafgaa
