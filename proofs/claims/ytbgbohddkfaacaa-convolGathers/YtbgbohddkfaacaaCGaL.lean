import Derived.Test.YtbgbohddkfaacaaCRG3
namespace Go.Proofs.Ytbgbohddkfaacaa
open Go.RowKit
set_option maxRecDepth 100000
set_option linter.unusedVariables false
set_option linter.unusedSimpArgs false

/-- 'copied' -/
theorem copied_any (a : Option Addr) (n cap : Nat) (S : List Int) (w : World) (hp : RdI w a n cap S) (hn : n ≤ 17592186044000) :
    Calls Try.prog 19 #[.slice a n cap] w fun e w' => ∃ a' c', e = .returned (.slice a' n c') ∧ AnsZ w' w.heap.size a' n c' S ∧ w.grownBy w' none := by
  have hm1 := hp.le; have hm2 := hp.max
  unfold maxLen at hm2
  go_enter Try.func19, Try.ntmps19
  by_cases h0 : 0 < n
  · obtain ⟨b, off, e, hbw, hcc⟩ := hp.at' h0
    subst e
    have hl : (zys S).length = n := by rw [zys_length, hp.len]
    have hc : ∀ j u, (zys S)[j]? = some u → w.cell? ((⟨b, off, none⟩ : Addr).add j) = some u := by
      intro j u hu
      have hj : j < S.length := by
        have := (List.getElem?_eq_some_iff.1 hu).1
        rw [zys_length] at this; exact this
      rw [zys_at S j hj] at hu
      rw [← hu, addr_add]
      exact hcc j (by rw [← hp.len]; exact hj)
    go_wp2_with (at_builtin; refine wpList_apI _ rfl _ _ rfl (.slice none 0 0) 0 [] rfl (World.ownsRow_nil _ _ _ _) ⟨b, off, none⟩ n cap (zys S) rfl hl hc (zys_one S) h0 (by omega) ?_; intro g c w1 hg1 hgr1 hown1)
    simp only [Nat.zero_add, List.nil_append] at hown1
    have hgl : w.heap.size ≤ g := by
      rcases hg1 with h | h
      · simp [Value.ownBlock] at h
      · exact h
    go_ret
    refine ⟨some ⟨g, 0, none⟩, c, by simp, ⟨hown1, fun g' h => ?_⟩, hgr1⟩
    have e : g = g' := Option.some.inj h
    omega
  · obtain rfl : n = 0 := by omega
    have hS : S = [] := List.eq_nil_of_length_eq_zero hp.len
    subst hS
    obtain ⟨i0, hi, hz0, hz1, hz2⟩ := info_parts Try.info_int
    cases a with
    | none =>
      have hc0 : cap = 0 := hp.nil rfl
      subst hc0
      go_wp2_with (at_builtin; refine wpList_append_own_none rfl _ _ 35 rfl 0 3 i0 1 Try.underlying35 hi (.slice none 0 0) 0 [] rfl (World.ownsRow_nil _ _ _ _) rfl ?_)
      go_ret
      exact ⟨none, 0, rfl, ansZ_nil _ _, World.grownBy.refl _ _⟩
    | some ad =>
      go_wp2_with (at_builtin; refine wpList_append_own w rfl _ _ 35 rfl w.heap.size 3 i0 (.int .i64 0) 1 8 Try.underlying35 hi hz0 hz1 hz2 rfl (by decide) (.slice none 0 0) 0 [] rfl (World.ownsRow_nil _ _ _ _) ad 0 cap [] rfl rfl (fun j u h => by simp at h) (fun u h => by simp at h) (by unfold maxLen; omega) (by omega) (Nat.le_refl _) ?_; intro v' w' hown' hgr hnil; have hv : v' = .slice none 0 0 := hnil.2 ⟨rfl, rfl⟩; subst hv)
      go_ret
      exact ⟨none, 0, rfl, ansZ_nil _ _, hgr⟩
set_option maxHeartbeats 1000000 in
theorem sameInts_any (a b : Option Addr) (n m cap cap' : Nat) (S : List Int) (w : World) (h : RdI w a n cap S) (k : RdI w b m cap' S) :
    Calls Try.prog 21 #[.slice a n cap, .slice b m cap'] w fun e w' => e = .returned (.bool true) ∧ w.grownBy w' none := by
  have e0 : n = m := by rw [← h.len, ← k.len]
  subst e0
  have hm1 := h.le; have hm2 := h.max
  unfold maxLen at hm2
  go_enter Try.func21, Try.ntmps21
  go_wp2
  go_loopw [5] (fun i wr => ∃ q : Nat, q ≤ n ∧ i = .int .i64 q ∧ w.grownBy wr none) (fun i _ => n - (intOf i).toNat)
  case atStart => exact ⟨0, by omega, rfl, World.grownBy.refl _ _⟩
  case round =>
    obtain ⟨q, hq, rfl, hgr⟩ := hrel
    by_cases hlt : q < n
    · obtain ⟨b1, o1, e1, _, hc1⟩ := (h.keep hgr).at' (by omega)
      obtain ⟨b2, o2, e2, _, hc2⟩ := (k.keep hgr).at' (by omega)
      subst e1
      subst e2
      have c1 := hc1 q hlt
      have c2 := hc2 q hlt
      have hqi : (q : Int) < (n : Int) := by omega
      clear hc1 hc2 h k
      generalize nthI S q = x at *
      go_wp2
      go_quiet (fail)
      go_wp2
      go_roundw
      case rel => exact ⟨q + 1, by omega, by go_num, grown_trans hgr (grown_drewN _ _ _)⟩
      case measure => simp [intOf]; omega
    · go_wp2
      go_ret
      exact ⟨rfl, hgr⟩
end Go.Proofs.Ytbgbohddkfaacaa
