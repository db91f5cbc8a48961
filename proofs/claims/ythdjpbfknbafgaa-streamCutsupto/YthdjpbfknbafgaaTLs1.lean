import Derived.Test.YthdjpbfknbafgaaTRg
namespace Go.Proofs.Ythdjpbfknbafgaa
open Go.RowKit Go.Shelf
set_option maxRecDepth 100000
set_option linter.unusedVariables false
set_option linter.unusedSimpArgs false

/-- the marks of the ranges that are over -/
def mark (D : Nat) : Deferred := { target := .collected D, args := #[] }
/-- what marks leave as it is -/
structure ShutM (w w' : World) : Prop where
  os : w'.os = w.os
  tape : w'.tape = w.tape
  output : w'.output = w.output
  size : w'.heap.size = w.heap.size
  block : ∀ (k : Nat) (o : Obj), w.heap[k]? = some o → o.isCells = true → w'.heap[k]? = some o
  other : ∀ k : Nat, (∀ x, w.heap[k]? ≠ some (Obj.deferred x)) → w'.heap[k]? = w.heap[k]?
/-- A function that ranged over functions, in a loop, leaves with a mark for each range: each one's block hands over no call. -/
theorem leaves_marks {F : Fence} {n : Nat} {P : Program} {fn : Func} {tmps : Array Value} {R : Ending → World → Prop} (Ds : List Nat) : ∀ w : World, Ds.Nodup → (∀ D, D ∈ Ds → w.heap[D]? = some (.deferred (some []))) →
    (∀ w', ShutM w w' → LeavesIn F n P fn tmps R [] .returning w') → LeavesInM F n P fn tmps R (Ds.map mark) .returning w := by
  induction Ds with
  | nil => intro w _ _ h; exact h w ⟨rfl, rfl, rfl, rfl, fun _ _ h _ => h, fun _ _ => rfl⟩
  | cons D Ds ih =>
    intro w hnd hD h
    have hD0 := hD D (List.mem_cons_self ..)
    obtain ⟨hn1, hn2⟩ := List.nodup_cons.1 hnd
    refine ⟨by simp, .inl ⟨D, _, rfl, run_takeDeferred hD0, ?_⟩⟩
    refine ih _ hn2 (fun E hE => ?_) (fun w' hs => h w' ?_)
    · rw [World.putObj_heap_other (fun e => hn1 (by rw [← e]; exact hE))]
      exact hD E (List.mem_cons_of_mem _ hE)
    · refine ⟨hs.os, hs.tape, hs.output, hs.size.trans (by simp [World.putObj]), fun k o hk ho => hs.block k o ?_ ho, fun k hk => ?_⟩
      · by_cases e : k = D
        · subst e; rw [hD0] at hk; cases hk; cases ho
        · rw [World.putObj_heap_other e]; exact hk
      · have e : k ≠ D := fun e => hk _ (by rw [e]; exact hD0)
        have := hs.other k (by rw [World.putObj_heap_other e]; exact hk)
        rw [this, World.putObj_heap_other e]
/-- each frame that is told has as many bytes as the rule says -/
theorem stX_D (r : Rx) (s : Mx) (f : Fa) (h : f ∈ (stX r s).2) : f.2.2.2.length = r.L := by
  unfold stX at h
  by_cases h0 : s.mode = 0
  · rw [if_pos h0] at h; cases h
  · rw [if_neg h0] at h
    by_cases h1 : s.mode = 1
    · rw [if_pos h1] at h
      unfold gaX at h
      by_cases h8 : (s.tk - s.p) % 8 ≠ 0
      · rw [if_pos h8] at h; cases h
      · rw [if_neg h8] at h
        by_cases hf : s.da.length + 1 = r.L
        · rw [if_pos hf] at h
          have e := List.mem_singleton.1 h
          subst e
          show (scrL (tuD s.tu (s.da ++ [_]))).length = _
          rw [scrL_len, tuD_len, List.length_append]; exact hf
        · rw [if_neg hf] at h; cases h
    · rw [if_neg h1] at h; cases h
theorem tkX_D (r : Rx) (s : Mx) (B : List Nat) (n : Nat) : ∀ f, f ∈ (tkX r s B n).2 → f.2.2.2.length = r.L := by
  induction n with
  | zero => intro f hf; cases hf
  | succ n ih =>
    intro f hf
    rcases List.mem_append.1 hf with h | h
    · exact ih f h
    · exact stX_D r _ f h
end Go.Proofs.Ythdjpbfknbafgaa
