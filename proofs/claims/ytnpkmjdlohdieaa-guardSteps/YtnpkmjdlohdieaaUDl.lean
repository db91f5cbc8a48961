import Derived.Test.YtnpkmjdlohdieaaUMa
import Derived.Lib.SliceRun
namespace Go.Proofs.Ytnpkmjdlohdieaa
open Go.RowKit
set_option maxRecDepth 100000
set_option linter.unusedVariables false
set_option linter.unusedSimpArgs false
theorem AnsX.take {e : TypeId} {w : World} {lo g n cap : Nat} {X : List Value} (h : AnsX e w lo (some ⟨g, 0, none⟩) n cap X) (m : Nat) (hm : m ≤ n) : AnsX e w lo (some ⟨g, 0, none⟩) m cap (X.take m) := by
  have hl := h.len
  refine ⟨⟨by rw [List.length_take]; omega, ?_⟩, fun u hu => h.one u (List.mem_of_mem_take hu), fun g' h' => h.new g' h'⟩
  rcases h.own.2 with ⟨h1, _⟩ | ⟨g', cap', cur, h1, h2, h3, h4, h5, h6, h7⟩
  · simp at h1
  · simp only [Value.slice.injEq, Option.some.injEq, Addr.mk.injEq] at h1
    obtain ⟨⟨rfl, _⟩, _, rfl⟩ := h1
    refine .inr ⟨g, cap, cur, rfl, h2, h3, by omega, h5, h6, ?_⟩
    rw [← h7, List.take_take]
    congr 1
    omega
theorem AnsX.clr {e : TypeId} {lo g n cap : Nat} {X : List Value} (vs : List Value) (h1 : ∀ v, v ∈ vs → v.oneCell' = true) : ∀ (o : Nat) (w : World), AnsX e w lo (some ⟨g, 0, none⟩) n cap X → X.length ≤ o → AnsX e (w.setCells g o vs) lo (some ⟨g, 0, none⟩) n cap X ∧ w.grownBy (w.setCells g o vs) (some g) := by
  induction vs with
  | nil => exact fun o w h _ => ⟨h, World.grownBy.refl _ _⟩
  | cons v vs ih =>
    intro o w h ho
    have h2 := h.set o v (h1 v (List.mem_cons_self ..))
    rw [List.set_eq_of_length_le ho] at h2
    obtain ⟨k1, k2⟩ := ih (fun u hu => h1 u (List.mem_cons_of_mem _ hu)) (o + 1) _ h2 (by omega)
    exact ⟨k1, grown_trans (grown_set w g o v) k2⟩
theorem AnsX.some_of {e : TypeId} {w : World} {lo : Nat} {a : Option Addr} {n cap : Nat} {X : List Value} (h : AnsX e w lo a n cap X) (hn : 0 < n) : ∃ g, a = some ⟨g, 0, none⟩ ∧ lo ≤ g ∧ g < w.heap.size := by
  rcases h.cases with ⟨_, h0, _⟩ | h
  · omega
  · exact h
theorem zero_int (w : World) : (zeroValue 3).run Try.prog w = .ok (.int .i64 0) w := by go_simp
theorem zys_take (S : List Int) (m : Nat) : (zys S).take m = zys (S.take m) := by simp [zys, List.map_take]
theorem zys_drop (S : List Int) (m : Nat) : (zys S).drop m = zys (S.drop m) := by simp [zys, List.map_drop]
theorem run_clr1 (g n cap : Nat) (S : List Int) (lo o k c : Nat) (ty : TypeId) (w : World) (h : AnsX 3 w lo (some ⟨g, 0, none⟩) n cap (zys S)) (ho : o + k ≤ n) (hk : 0 < k) :
    (Builtin.clear_ #[26] ty #[.slice (some ⟨g, o, none⟩) k c]).run Try.prog w = .ok (.tuple #[]) (w.setCells g o (List.replicate k (.int .i64 0))) := by
  have hl : S.length = n := by rw [← zys_length]; exact h.len
  refine Lib.run_clear_slice w 26 3 ty _ Try.underlying26 zero_int rfl rfl g o k c hk (fun j hj => ?_) (fun j hj => h.free _)
  rw [h.cell (o + j) _ (zys_at S (o + j) (by omega))]
  rfl
theorem one_rep (k : Nat) : ∀ v, v ∈ List.replicate k (Value.int .i64 0) → v.oneCell' = true := by
  intro v hv
  rw [List.eq_of_mem_replicate hv]; rfl
theorem step_app {w w' : World} {ops : Array Oper} {o : Oper} {a : Act} {K : Act → World → Prop} {Q : Exit → Act → World → Prop} {E : Prop} {t : TypeId} {v v1 v2 : Value} (hg : o.guard = none) (ht : o.type = t) (s x : Operand)
    (hop : o.op = Op.call { callee := .builtin .append, args := #[s, x], argTypes := #[t, t] }) (hs : a.eval s = v1) (hx : a.eval x = v2) (hrun : (Builtin.append_ #[t, t] t #[v1, v2]).run Try.prog w = .ok v w') (h : K (a.put o.dst v) w') :
    if Region.wanted o (yielded ops a.tmps) = true then Oper.wp Try.prog o a w K Q else E := by
  have hw : Region.wanted o (yielded ops a.tmps) = true := by simp [Region.wanted, hg]
  rw [if_pos hw]
  unfold Oper.wp
  simp [execOp, hop, resolve, invoke, builtin, ht, hs, hx, hrun, Result.andThen, Oper.upon]
  exact h
set_option maxHeartbeats 8000000 in
/-- the first of numbers is struck -/
theorem delete01_any (g n cap lo : Nat) (S : List Int) (w : World) (h : AnsX 3 w lo (some ⟨g, 0, none⟩) n cap (zys S)) (hn : 2 ≤ n) (hn2 : n ≤ 1000) :
    Calls Try.prog 63 #[.slice (some ⟨g, 0, none⟩) n cap, .int .i64 0, .int .i64 1] w fun e w' => e = .returned (.slice (some ⟨g, 0, none⟩) (n - 1) cap) ∧ AnsX 3 w' lo (some ⟨g, 0, none⟩) (n - 1) cap (zys (S.drop 1)) ∧ w.grownBy w' (some g) := by
  have hmx := h.max
  have hmm : maxLen ≤ 9223372036854775807 := by decide
  have hl : S.length = n := by rw [← zys_length]; exact h.len
  obtain ⟨m, rfl⟩ : ∃ m, n = m + 1 := ⟨n - 1, by omega⟩
  have hcap1 : ¬ cap = 1 := by omega
  have hcap0 : 1 ≤ cap := by omega
  have hcap2 : (1 : Int) ≤ (cap : Int) := by omega
  have hle : ((m : Int) + 1) ≤ (cap : Int) := by omega
  have hle' : m + 1 ≤ cap := by omega
  obtain ⟨i0, hi, hz0, hz1, hz2⟩ := info_parts Try.elI.inf
  have h0 := h.take 0 (Nat.zero_le _)
  rw [List.take_zero] at h0
  obtain ⟨w2, hrun, r1, r2⟩ := run_append_fits (P := Try.prog) w.drew 0 26 26 3 i0 1 Try.underlying26 hi hz1 g 0 cap [] (h0.keep (grown_drew w none)).own ⟨g, 1, none⟩ m (cap - 1) (zys (S.drop 1)) (by rw [zys_length, List.length_drop]; omega) (fun j u hu => by
    rw [addr_add]
    have hj : j < (S.drop 1).length := by have := (List.getElem?_eq_some_iff.1 hu).1; rw [zys_length] at this; exact this
    rw [← zys_drop, List.getElem?_drop] at hu
    exact (h.keep (grown_drew w none)).cell (1 + j) u hu) (zys_one _) (by omega)
  rw [Nat.zero_add, List.nil_append] at r1
  rw [Nat.zero_add] at hrun
  have A2 : AnsX 3 w2 lo (some ⟨g, 0, none⟩) m cap (zys (S.drop 1)) := ⟨r1, zys_one _, h.new⟩
  have hl2 : (zys (S.drop 1)).length = m := by rw [zys_length, List.length_drop]; omega
  obtain ⟨A3, g3⟩ := AnsX.clr (X := zys (S.drop 1)) [.int .i64 0] (by intro v hv; rw [List.mem_singleton.1 hv]; rfl) m w2 A2 (by omega)
  have hcl : ∀ ty, (Builtin.clear_ #[26] ty #[.slice (some ⟨g, m, none⟩) 1 (cap - m)]).run Try.prog w2 = .ok (.tuple #[]) (w2.setCells g m [.int .i64 0]) := by
    intro ty
    refine Lib.run_clear_slice w2 26 3 ty _ Try.underlying26 zero_int rfl rfl g m 1 _ (by decide) (fun j hj => ?_) (fun j hj => A2.free _)
    obtain rfl : j = 0 := by omega
    rw [Nat.add_zero]
    rcases A2.own.2 with ⟨h1, _⟩ | ⟨g', cap', cur, h1, _, h3, _, _, h6, _⟩
    · simp at h1
    · simp only [Value.slice.injEq, Option.some.injEq, Addr.mk.injEq] at h1
      obtain ⟨⟨rfl, _⟩, _, rfl⟩ := h1
      rw [cell_of_row _ _ _ _ _ _ h3, Array.getElem?_eq_getElem (by omega)]
      rfl
  have hcm : ¬ cap = m := by omega
  have hp1 : ¬ ((m : Int) + 1 < 1) := by omega
  generalize w2.setCells g m [.int .i64 0] = w3 at *
  go_enter Try.func63, Try.ntmps63
  go_wp2
  refine wp_regionL (fun _ => True) [] #[false, false, false, false, false, false, false, false] rfl (by kernel_rfl) ?_
  refine wpAnyZ_take [] 0 (.slice (some ⟨g, 0, none⟩) (m + 1) cap) rfl (by kernel_rfl) (fun _ _ _ h => h) trivial rfl (by intro wz _; go_simp) ?_
  try simp only [List.getElem_toArray, List.getElem_cons_succ, List.getElem_cons_zero, Act.put, List.setIfInBounds_toArray, List.set_cons_zero, List.set_cons_succ]
  refine wpAnyZ_take [] 1 (.int .i64 0) rfl (by kernel_rfl) (fun _ _ _ h => h) trivial rfl (by intro wz _; go_simp) ?_
  try simp only [List.getElem_toArray, List.getElem_cons_succ, List.getElem_cons_zero, Act.put, List.setIfInBounds_toArray, List.set_cons_zero, List.set_cons_succ]
  refine wpAnyZ_take [] 2 (.slice (some ⟨g, 0, none⟩) 0 cap) rfl (by kernel_rfl) (fun _ _ _ h => h) trivial rfl (by intro wz _; go_simp) ?_
  try simp only [List.getElem_toArray, List.getElem_cons_succ, List.getElem_cons_zero, Act.put, List.setIfInBounds_toArray, List.set_cons_zero, List.set_cons_succ]
  refine wpAnyZ_take [] 3 (.slice (some ⟨g, 0, none⟩) (m + 1) cap) rfl (by kernel_rfl) (fun _ _ _ h => h) trivial rfl (by intro wz _; go_simp) ?_
  try simp only [List.getElem_toArray, List.getElem_cons_succ, List.getElem_cons_zero, Act.put, List.setIfInBounds_toArray, List.set_cons_zero, List.set_cons_succ]
  refine wpAnyZ_take [] 4 (.int .i64 1) rfl (by kernel_rfl) (fun _ _ _ h => h) trivial rfl (by intro wz _; go_simp) ?_
  try simp only [List.getElem_toArray, List.getElem_cons_succ, List.getElem_cons_zero, Act.put, List.setIfInBounds_toArray, List.set_cons_zero, List.set_cons_succ]
  refine wpAnyZ_take [] 5 ((.slice (some ⟨g, 1, none⟩) m (cap - 1))) rfl (by kernel_rfl) (fun _ _ _ h => h) trivial rfl (by intro wz _; go_simp) ?_
  try simp only [List.getElem_toArray, List.getElem_cons_succ, List.getElem_cons_zero, Act.put, List.setIfInBounds_toArray, List.set_cons_zero, List.set_cons_succ]
  refine wpAnyZ_oneB 6 rfl (by kernel_rfl) (fun K hK => ?_)
  refine step_app (v := .slice (some ⟨g, 0, none⟩) m cap) rfl rfl (.tmp 22) (.tmp 25) rfl rfl rfl hrun ?_
  refine hK _ _ (fun _ => trivial) ?_
  try simp only [List.getElem_toArray, List.getElem_cons_succ, List.getElem_cons_zero, Act.put, List.setIfInBounds_toArray, List.set_cons_zero, List.set_cons_succ]
  refine wpAnyZ_take [] 7 (.slice (some ⟨g, 0, none⟩) m cap) rfl (by kernel_rfl) (fun _ _ _ h => h) trivial rfl (by intro wz _; go_simp) ?_
  try simp only [List.getElem_toArray, List.getElem_cons_succ, List.getElem_cons_zero, Act.put, List.setIfInBounds_toArray, List.set_cons_zero, List.set_cons_succ]
  refine wpAnyZ_doneB (by kernel_rfl) ?_ _
  go_wp2
  go_ret
  refine ⟨rfl, ?_, ?_⟩
  · exact A3
  · exact grown_trans (grown_trans (grown_drew w _) r2) g3
set_option maxHeartbeats 8000000 in
/-- the first of numbers of which p is true -/
theorem indexG_any (p : Int → Bool) (cp : Value) (a : Option Addr) (n cap : Nat) (S : List Int) (w : World) (h : RdX w a n cap (zys S)) (hn : n ≤ 1000) (hP : ∀ z, Calls Try.prog 57 #[.int .i64 z, cp] w fun e w' => e = .returned (.bool (p z)) ∧ w' = w) :
    Calls Try.prog 59 #[.slice a n cap, .func (.func 57) #[] #[cp]] w fun e w' => (e = .returned (.int .i64 (-1)) ∧ (∀ i, i < n → p (nthI S i) = false) ∨ ∃ k : Nat, k < n ∧ e = .returned (.int .i64 k) ∧ p (nthI S k) = true ∧ ∀ i, i < k → p (nthI S i) = false) ∧ w' = w := by
  go_enter Try.func59, Try.ntmps59
  go_wp2
  go_loop [8] (fun i => ∃ k : Nat, k ≤ n ∧ i = .int .i64 k ∧ ∀ i, i < k → p (nthI S i) = false) (fun i => n - (intOf i).toNat)
  case atStart => exact ⟨0, by omega, rfl, fun i h => by omega⟩
  case round =>
    obtain ⟨k, hk, rfl, HK⟩ := hrel
    have HK' : Hid (∀ i, i < k → p (nthI S i) = false) := HK
    clear HK
    by_cases hlt : k < n
    · have hlt' : (k : Int) < (n : Int) := by omega
      obtain ⟨b, off, rfl, hbw, _⟩ := h.at' (by omega)
      have c1 := h.atI k hlt
      have hq := hP (nthI S k)
      have HP : Hid (p (nthI S k) = p (nthI S k)) := rfl
      clear h hP
      cases hpq : p (nthI S k)
      · rw [hpq] at hq
        have HQ : Hid (p (nthI S k) = false) := hpq
        clear hpq HP
        go_wp2_with (go_at_call 57; refine hq.mono ?_; rintro e w1 ⟨rfl, hw⟩; have hw := hw.symm; subst hw)
        go_round
        case rel => exact ⟨k + 1, by omega, by go_num, fun i hi => by
          by_cases e : i = k
          · subst e; exact HQ.out
          · exact HK'.out i (by omega)⟩
        case measure => simp [intOf] <;> omega
      · rw [hpq] at hq
        have HQ : Hid (p (nthI S k) = true) := hpq
        clear hpq HP
        go_wp2_with (go_at_call 57; refine hq.mono ?_; rintro e w1 ⟨rfl, hw⟩; have hw := hw.symm; subst hw)
        go_ret
        exact ⟨.inr ⟨k, hlt, rfl, HQ.out, HK'.out⟩, rfl⟩
    · have hlt' : ¬ (k : Int) < (n : Int) := by omega
      obtain rfl : k = n := by omega
      go_wp2
      go_ret
      exact ⟨.inl ⟨rfl, HK'.out⟩, rfl⟩
set_option maxHeartbeats 8000000 in
/-- the first of numbers of which p is true -/
theorem indexR_any (p : Int → Bool) (cp : Value) (a : Option Addr) (n cap : Nat) (S : List Int) (w : World) (h : RdX w a n cap (zys S)) (hn : n ≤ 1000) (hP : ∀ z, Calls Try.prog 60 #[.int .i64 z, cp] w fun e w' => e = .returned (.bool (p z)) ∧ w' = w) :
    Calls Try.prog 59 #[.slice a n cap, .func (.func 60) #[] #[cp]] w fun e w' => (e = .returned (.int .i64 (-1)) ∧ (∀ i, i < n → p (nthI S i) = false) ∨ ∃ k : Nat, k < n ∧ e = .returned (.int .i64 k) ∧ p (nthI S k) = true ∧ ∀ i, i < k → p (nthI S i) = false) ∧ w' = w := by
  go_enter Try.func59, Try.ntmps59
  go_wp2
  go_loop [8] (fun i => ∃ k : Nat, k ≤ n ∧ i = .int .i64 k ∧ ∀ i, i < k → p (nthI S i) = false) (fun i => n - (intOf i).toNat)
  case atStart => exact ⟨0, by omega, rfl, fun i h => by omega⟩
  case round =>
    obtain ⟨k, hk, rfl, HK⟩ := hrel
    have HK' : Hid (∀ i, i < k → p (nthI S i) = false) := HK
    clear HK
    by_cases hlt : k < n
    · have hlt' : (k : Int) < (n : Int) := by omega
      obtain ⟨b, off, rfl, hbw, _⟩ := h.at' (by omega)
      have c1 := h.atI k hlt
      have hq := hP (nthI S k)
      have HP : Hid (p (nthI S k) = p (nthI S k)) := rfl
      clear h hP
      cases hpq : p (nthI S k)
      · rw [hpq] at hq
        have HQ : Hid (p (nthI S k) = false) := hpq
        clear hpq HP
        go_wp2_with (go_at_call 60; refine hq.mono ?_; rintro e w1 ⟨rfl, hw⟩; have hw := hw.symm; subst hw)
        go_round
        case rel => exact ⟨k + 1, by omega, by go_num, fun i hi => by
          by_cases e : i = k
          · subst e; exact HQ.out
          · exact HK'.out i (by omega)⟩
        case measure => simp [intOf] <;> omega
      · rw [hpq] at hq
        have HQ : Hid (p (nthI S k) = true) := hpq
        clear hpq HP
        go_wp2_with (go_at_call 60; refine hq.mono ?_; rintro e w1 ⟨rfl, hw⟩; have hw := hw.symm; subst hw)
        go_ret
        exact ⟨.inr ⟨k, hlt, rfl, HQ.out, HK'.out⟩, rfl⟩
    · have hlt' : ¬ (k : Int) < (n : Int) := by omega
      obtain rfl : k = n := by omega
      go_wp2
      go_ret
      exact ⟨.inl ⟨rfl, HK'.out⟩, rfl⟩
/-- those of the first k numbers of which p is false -/
def fkL (p : Int → Bool) (S : List Int) : Nat → List Int
  | 0 => []
  | k + 1 => fkL p S k ++ (if p (nthI S k) = true then [] else [nthI S k])
theorem fkL_all (p : Int → Bool) (S : List Int) (k : Nat) (hk : k ≤ S.length) (h : ∀ i, i < k → p (nthI S i) = false) : fkL p S k = S.take k := by
  induction k with
  | zero => simp [fkL]
  | succ k ih =>
    simp only [fkL]
    rw [ih (by omega) (fun i hi => h i (by omega)), h k (by omega)]
    unfold nthI
    rw [List.take_add_one, List.getD_eq_getElem?_getD, List.getElem?_eq_getElem (by omega)]
    simp
theorem fkL_len (p : Int → Bool) (S : List Int) (k : Nat) : (fkL p S k).length ≤ k := by
  induction k with
  | zero => exact Nat.le_refl _
  | succ k ih => simp only [fkL, List.length_append]; split <;> simp <;> omega
theorem nthI_set_ne (S : List Int) (i j : Nat) (v : Int) (h : i ≠ j) : nthI (S.set i v) j = nthI S j := by
  unfold nthI
  rw [List.getD_eq_getElem?_getD, List.getD_eq_getElem?_getD, List.getElem?_set_ne h]
theorem zys_set (S : List Int) (i : Nat) (v : Int) : (zys S).set i (.int .i64 v) = zys (S.set i v) := by simp [zys, List.map_set]
theorem take_set_app (S : List Int) (i : Nat) (v : Int) (hi : i < S.length) : (S.set i v).take (i + 1) = S.take i ++ [v] := by
  rw [List.take_add_one, List.take_set_of_le (Nat.le_refl _)]
  simp [hi]
set_option maxHeartbeats 16000000 in
/-- numbers are struck of which p is true -/
theorem deleteF_any (p : Int → Bool) (cp : Value) (a : Option Addr) (n cap lo : Nat) (S : List Int) (w : World) (h : AnsX 3 w lo a n cap (zys S)) (hn : n ≤ 1000) (hP : ∀ z wz, w.grownBy wz (Value.slice a n cap).ownBlock → Calls Try.prog 57 #[.int .i64 z, cp] wz fun e w' => e = .returned (.bool (p z)) ∧ w' = wz) :
    Calls Try.prog 56 #[.slice a n cap, .func (.func 57) #[] #[cp]] w fun e w' => e = .returned (.slice a (fkL p S n).length cap) ∧ AnsX 3 w' lo a (fkL p S n).length cap (zys (fkL p S n)) ∧ w.grownBy w' (Value.slice a n cap).ownBlock := by
  have hl : S.length = n := by rw [← zys_length]; exact h.len
  have hmx := h.max
  have hmm : maxLen ≤ 9223372036854775807 := by decide
  have hI := indexG_any p cp a n cap S w h.rd hn (fun z => hP z w (World.grownBy.refl _ _))
  go_enter Try.func56, Try.ntmps56
  go_wp2_with (go_at_call 59; refine hI.mono ?_; rintro e w1 ⟨hr, hw⟩; have hw := hw.symm; subst hw; rcases hr with ⟨rfl, hr⟩ | ⟨k, hk, rfl, hr1, hr2⟩ <;> (try have hk1 : ((k : Int) == -1) = false := beq_false_of_ne (by omega)))
  · go_ret
    have e : fkL p S n = S := by rw [fkL_all p S n (by omega) hr, ← hl, List.take_length]
    rw [e, hl]
    exact ⟨rfl, h, World.grownBy.refl _ _⟩
  · obtain ⟨g, rfl, hlo, hgl⟩ := h.some_of (by omega)
    have HF0 : Hid (fkL p S (k + 1) = S.take k) := by
      show _ = _
      simp only [fkL]
      rw [fkL_all p S k (by omega) hr2, hr1]
      simp
    clear hI hr1 hr2
    go_loopw [5, 6] (fun iv jv wr => ∃ (i j : Nat) (Y : List Int), iv = .int .i64 i ∧ jv = .int .i64 j ∧ i < j ∧ j ≤ n ∧ Y.length = n ∧ AnsX 3 wr lo (some ⟨g, 0, none⟩) n cap (zys Y) ∧ w.grownBy wr (some g) ∧ Y.take i = fkL p S j ∧ (∀ q, j ≤ q → nthI Y q = nthI S q)) (fun _ jv _ => n - (intOf jv).toNat)
    case atStart => exact ⟨k, k + 1, S, by go_num, by go_num, by omega, by omega, hl, h, World.grownBy.refl _ _, HF0.out.symm, fun q _ => rfl⟩
    case round =>
      obtain ⟨i, j, Y, rfl, rfl, hij, hj, hY, hA, hgr, HT, HQ⟩ := hrel
      have HT' : Hid (Y.take i = fkL p S j) := HT
      have HQ' : Hid (∀ q, j ≤ q → nthI Y q = nthI S q) := HQ
      have HY' : Hid (Y.length = n) := hY
      have HL' : Hid (S.length = n) := hl
      clear HT HQ hY hl HF0
      by_cases hlt : j < n
      · have hlt' : (j : Int) < (n : Int) := by omega
        have hil : i < n := by omega
        have hil' : (i : Int) < (n : Int) := by omega
        have c1 := hA.cell j _ (zys_at Y j (by rw [HY'.out]; exact hlt))
        rw [HQ'.out j (Nat.le_refl _)] at c1
        have hq := hP (nthI S j) wr hgr
        have HF : Hid (fkL p S (j + 1) = fkL p S j ++ (if p (nthI S j) = true then [] else [nthI S j])) := rfl
        have c2 := hA.cell i _ (zys_at Y i (by rw [HY'.out]; exact hil))
        have f2 := hA.free i
        have hA2 := hA.set i (.int .i64 (nthI S j)) rfl
        rw [zys_set] at hA2
        generalize p (nthI S j) = pb at hq HF
        generalize hz : nthI S j = z at *
        have HZ : Hid (nthI S j = z) := hz
        clear hz
        generalize hz2 : nthI Y i = z2 at *
        clear hz2
        cases pb
        · go_wp2_with (go_at_call 57; refine hq.mono ?_; rintro e w1 ⟨rfl, hw⟩; have hw := hw.symm; subst hw)
          go_roundw
          case rel =>
            refine ⟨i + 1, j + 1, Y.set i z, by go_num, by go_num, by omega, by omega, by rw [List.length_set]; exact HY'.out, hA2, grown_trans hgr (grown_set _ _ _ _), ?_, fun q hq => ?_⟩
            · rw [take_set_app Y i z (by rw [HY'.out]; exact hil), HT'.out, HF.out]; simp
            · rw [nthI_set_ne Y i q z (by omega)]
              exact HQ'.out q (by omega)
          case measure => simp [intOf]; omega
        · go_wp2_with (go_at_call 57; refine hq.mono ?_; rintro e w1 ⟨rfl, hw⟩; have hw := hw.symm; subst hw)
          go_roundw
          case rel =>
            refine ⟨i, j + 1, Y, by go_num, by go_num, by omega, by omega, HY'.out, hA, hgr, ?_, fun q hq => HQ'.out q (by omega)⟩
            rw [HT'.out, HF.out]; simp
          case measure => simp [intOf]; omega
      · have hlt' : ¬ (j : Int) < (n : Int) := by omega
        obtain rfl : j = n := by omega
        have hil : i ≤ j := by omega
        have hil' : (i : Int) ≤ (j : Int) := by omega
        have hic : ¬ cap = i := by omega
        have hlen : (fkL p S j).length = i := by rw [← HT'.out, List.length_take, HY'.out]; omega
        have HN : Hid ((fkL p S j).length = i) := hlen
        have hT := hA.take i (by omega)
        rw [zys_take, HT'.out] at hT
        obtain ⟨hC, g3⟩ := AnsX.clr (List.replicate (j - i) (.int .i64 0)) (one_rep _) i wr hT (by rw [zys_length, hlen]; exact Nat.le_refl _)
        have hcl : ∀ ty, (Builtin.clear_ #[26] ty #[.slice (some ⟨g, i, none⟩) (j - i) (cap - i)]).run Try.prog wr = .ok (.tuple #[]) (wr.setCells g i (List.replicate (j - i) (.int .i64 0))) := fun ty => run_clr1 g j cap Y lo i (j - i) (cap - i) ty wr hA (by omega) (by omega)
        generalize wr.setCells g i (List.replicate (j - i) (.int .i64 0)) = w3 at *
        have hic2 : i ≤ cap := by omega
        have hic3 : (i : Int) ≤ (cap : Int) := by omega
        have hni : ¬ ((j : Int) < (i : Int)) := by omega
        clear hlen hP
        go_wp2
        go_ret
        refine ⟨by rw [HN.out]; rfl, ?_, grown_trans hgr g3⟩
        rw [HN.out]
        exact hC
end Go.Proofs.Ytnpkmjdlohdieaa
