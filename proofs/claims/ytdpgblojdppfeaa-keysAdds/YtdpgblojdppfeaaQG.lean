import Derived.Test.YtdpgblojdppfeaaQF
namespace Go.Proofs.Ytdpgblojdppfeaa
open Go.RowKit
set_option maxRecDepth 100000
set_option linter.unusedVariables false
set_option linter.unusedSimpArgs false
theorem step_app {w w' : World} {ops : Array Oper} {o : Oper} {a : Act} {K : Act → World → Prop} {Q : Exit → Act → World → Prop} {E : Prop} {t : TypeId} {v v1 v2 : Value} (hg : o.guard = none) (ht : o.type = t) (s x : Operand)
    (hop : o.op = Op.call { callee := .builtin .append, args := #[s, x], argTypes := #[t, t] }) (hs : a.eval s = v1) (hx : a.eval x = v2) (hrun : (Builtin.append_ #[t, t] t #[v1, v2]).run Try.prog w = .ok v w') (h : K (a.put o.dst v) w') :
    if Region.wanted o (yielded ops a.tmps) = true then Oper.wp Try.prog o a w K Q else E := by
  have hw : Region.wanted o (yielded ops a.tmps) = true := by simp [Region.wanted, hg]
  rw [if_pos hw]
  unfold Oper.wp
  simp [execOp, hop, resolve, invoke, builtin, ht, hs, hx, hrun, Result.andThen, Oper.upon]
  exact h
theorem own_takeK {w : World} {g n cap : Nat} {ks : List Kw} (h : w.ownsRow 0 27 4 (.slice (some ⟨g, 0, none⟩) n cap) n (flK ks)) (hl : ks.length = n) (m : Nat) (hm : m ≤ n) : w.ownsRow 0 27 4 (.slice (some ⟨g, 0, none⟩) m cap) m (flK (ks.take m)) := by
  refine ⟨by rw [flK_len, List.length_take]; omega, ?_⟩
  rcases h.2 with ⟨h1, _⟩ | ⟨g', cap', cur, h1, h2, h3, h4, h5, h6, h7⟩
  · simp at h1
  · simp only [Value.slice.injEq, Option.some.injEq, Addr.mk.injEq] at h1
    obtain ⟨⟨rfl, _⟩, _, rfl⟩ := h1
    refine .inr ⟨g, cap, cur, rfl, h2, h3, by omega, h5, h6, ?_⟩
    rw [← flK_take, ← h7, List.take_take]
    congr 1
    omega
theorem own_setK {w : World} {g n cap : Nat} {X : List Value} (h : w.ownsRow 0 27 4 (.slice (some ⟨g, 0, none⟩) n cap) n X) (i : Nat) (v : Value) (hi : n * 4 ≤ i) : (w.setCell ⟨g, i, none⟩ v).ownsRow 0 27 4 (.slice (some ⟨g, 0, none⟩) n cap) n X := by
  refine ⟨h.1, ?_⟩
  rcases h.2 with ⟨h1, _⟩ | ⟨g', cap', cur, h1, h2, h3, h4, h5, h6, h7⟩
  · simp at h1
  · simp only [Value.slice.injEq, Option.some.injEq, Addr.mk.injEq] at h1
    obtain ⟨⟨rfl, _⟩, _, rfl⟩ := h1
    refine .inr ⟨g, cap, cur.setIfInBounds i v, rfl, h2, heap_setCell_same w g i _ _ _ h3, h4, h5, by simpa using h6, ?_⟩
    rw [← h7, Array.toList_setIfInBounds, List.take_set_of_le hi]
theorem own_clrK {g n cap : Nat} {X : List Value} (vs : List Value) : ∀ (o : Nat) (w : World), w.ownsRow 0 27 4 (.slice (some ⟨g, 0, none⟩) n cap) n X → n * 4 ≤ o → (w.setCells g o vs).ownsRow 0 27 4 (.slice (some ⟨g, 0, none⟩) n cap) n X ∧ w.grownBy (w.setCells g o vs) (some g) := by
  induction vs with
  | nil => exact fun o w h _ => ⟨h, World.grownBy.refl _ _⟩
  | cons v vs ih =>
    intro o w h ho
    obtain ⟨k1, k2⟩ := ih (o + 1) _ (own_setK h o v ho) (by omega)
    exact ⟨k1, grown_trans (grown_set w g o v) k2⟩
theorem zero_key (w : World) : (zeroValue 27).run Try.prog w = .ok (.agg #[.int .i64 0, .slice none 0 0, .int .i64 0, .int .i64 0]) w := by go_simp
theorem run_clear_key (w : World) (ty : TypeId) (b o c : Nat) (hc : ∀ j, j < 4 → (w.cell? ⟨b, o + j, none⟩).isSome = true) (hf : ∀ j, j < 4 → w.frozen? ⟨b, o + j, none⟩ = false) :
    (Builtin.clear_ #[22] ty #[.slice (some ⟨b, o, none⟩) 1 c]).run Try.prog w = .ok (.tuple #[]) (w.setCells b o [.int .i64 0, .slice none 0 0, .int .i64 0, .int .i64 0]) := by
  have hzc : (Builtin.zeroCells (Value.agg #[.int .i64 0, .slice none 0 0, .int .i64 0, .int .i64 0]).cells 1).toList = [.int .i64 0, .slice none 0 0, .int .i64 0, .int .i64 0] := by first | kernel_rfl | decide +kernel | (simp [Builtin.zeroCells]; rfl)
  have hst := run_storeCells_cells (P := Try.prog) b o [.int .i64 0, .slice none 0 0, .int .i64 0, .int .i64 0] 0 w (by simpa using hc) (by simpa using hf) (by intro v hv; simp only [List.mem_cons, List.not_mem_nil, or_false] at hv; rcases hv with rfl | rfl | rfl | rfl <;> rfl)
  simp only [Nat.add_zero] at hst
  simp [Builtin.clear_, run_underlying Try.underlying22, zero_key, hzc, hst]
/-- a key less -/
theorem OwK.erase {w w' : World} {lo g n cap j : Nat} {ks : List Kw} (h : OwK w lo (some ⟨g, 0, none⟩) n cap ks) (hj : j < n) (ho : w'.ownsRow 0 27 4 (.slice (some ⟨g, 0, none⟩) (n - 1) cap) (n - 1) (flK (ks.eraseIdx j))) (hg : w.grownBy w' (some g)) : OwK w' lo (some ⟨g, 0, none⟩) (n - 1) cap (ks.eraseIdx j) := by
  have hl := h.len
  refine ⟨ho, by rw [List.length_eraseIdx_of_lt (by omega), hl], h.new, fun k hk => ?_, fun k hk => h.bd k (List.mem_of_mem_eraseIdx hk), h.apart.sublist (List.eraseIdx_sublist _ _)⟩
  have hm := List.mem_of_mem_eraseIdx hk
  refine (h.each k hm).kept hg ?_
  cases e : (Value.slice k.a k.n k.c).ownBlock with
  | none => exact .inl rfl
  | some x =>
    refine .inr (fun e2 => ?_)
    have e2 : x = g := Option.some.inj e2
    subst e2
    rcases h.own.2 with ⟨h1, _⟩ | ⟨y, cap', cur, h1, _, hh, _⟩
    · simp at h1
    · simp only [Value.slice.injEq, Option.some.injEq, Addr.mk.injEq] at h1
      obtain ⟨⟨rfl, _⟩, _, rfl⟩ := h1
      exact (h.each k hm).box hh (by decide) e
set_option maxHeartbeats 16000000 in
theorem deleteL_any (g lo j k : Nat) (ks : List Kw) (w : World) (h : OwK w lo (some ⟨g, 0, none⟩) k k ks) (hk : k = j + 1) (hn2 : k ≤ 1000) :
    Calls Try.prog 27 #[.slice (some ⟨g, 0, none⟩) k k, .int .i64 (j : Int), .int .i64 (k : Int)] w fun e w' => e = .returned (.slice (some ⟨g, 0, none⟩) (k - 1) k) ∧ OwK w' lo (some ⟨g, 0, none⟩) (k - 1) k (ks.eraseIdx j) ∧ w.grownBy w' (some g) := by
  have hmx := h.max
  have hl := h.len
  obtain ⟨i0, hi, hz0, hz1, hz2⟩ := info_parts Try.info_ky
  have hT := own_takeK h.own hl j (by omega)
  have eer : flK (ks.take j) = flK (ks.eraseIdx j) := by rw [List.eraseIdx_eq_take_drop_succ, List.drop_eq_nil_of_le (by omega), List.append_nil]
  have k1 : ((j : Int) == (k : Int)) = false := beq_false_of_ne (by omega)
  have k2 : (j : Int) ≤ (k : Int) := by omega
  have k7 : ¬ k = j := by omega
  have eN : k - 1 = j := by omega
  obtain ⟨w2, hrun, r1, r2⟩ := run_append_fits (P := Try.prog) w.drew 0 22 22 27 i0 4 Try.underlying22 hi hz1 g j k (flK (ks.take j)) (hT.kept (grown_drew w none) (.inr (by simp [Value.ownBlock]))) ⟨g, 0, none⟩ 0 0 [] rfl (fun q u hu => by cases hu) (fun u hu => by cases hu) (by omega)
  rw [eer, List.append_nil, Nat.add_zero] at r1
  rw [Nat.add_zero] at hrun
  obtain ⟨A3, g3⟩ := own_clrK [.int .i64 0, .slice none 0 0, .int .i64 0, .int .i64 0] (j * 4) w2 r1 (Nat.le_refl _)
  have gg := grown_trans (grown_trans (grown_drew w (some g)) r2) g3
  have hO := h.erase (j := j) (by omega) (by rw [eN]; exact A3) gg
  have hcl : ∀ ty, (Builtin.clear_ #[22] ty #[.slice (some ⟨g, j * 4, none⟩) (k - j) (k - j)]).run Try.prog w2 = .ok (.tuple #[]) (w2.setCells g (j * 4) [.int .i64 0, .slice none 0 0, .int .i64 0, .int .i64 0]) := by
    intro ty
    rw [show k - j = 1 by omega]
    rcases r1.2 with ⟨h1, _⟩ | ⟨g', cap', cur, h1, _, h3, _, _, h6, _⟩
    · simp at h1
    · simp only [Value.slice.injEq, Option.some.injEq, Addr.mk.injEq] at h1
      obtain ⟨⟨rfl, _⟩, _, rfl⟩ := h1
      refine run_clear_key w2 ty g _ _ (fun q hq => ?_) (fun q hq => frozen_of_row w2 g _ _ _ h3)
      rw [cell_of_row _ _ _ _ _ _ h3, Array.getElem?_eq_getElem (by omega)]
      rfl
  generalize w2.setCells g (j * 4) [.int .i64 0, .slice none 0 0, .int .i64 0, .int .i64 0] = w3 at *
  clear eer hT hk hmx hl 
  go_enter Try.func27, Try.ntmps27
  go_wp2
  refine wp_regionL (fun _ => True) [] #[false, false, false, false, false, false, false, false] rfl (by kernel_rfl) ?_
  refine wpAnyZ_take [] 0 ((.slice (some ⟨g, 0, none⟩) k k)) rfl (by kernel_rfl) (fun _ _ _ h => h) trivial rfl (by intro wz _; go_simp) ?_
  try simp only [List.getElem_toArray, List.getElem_cons_succ, List.getElem_cons_zero, Act.put, List.setIfInBounds_toArray, List.set_cons_zero, List.set_cons_succ]
  refine wpAnyZ_take [] 1 (.int .i64 (j : Int)) rfl (by kernel_rfl) (fun _ _ _ h => h) trivial rfl (by intro wz _; go_simp) ?_
  try simp only [List.getElem_toArray, List.getElem_cons_succ, List.getElem_cons_zero, Act.put, List.setIfInBounds_toArray, List.set_cons_zero, List.set_cons_succ]
  refine wpAnyZ_take [] 2 ((.slice (some ⟨g, 0, none⟩) j k)) rfl (by kernel_rfl) (fun _ _ _ h => h) trivial rfl (by intro wz _; go_simp) ?_
  try simp only [List.getElem_toArray, List.getElem_cons_succ, List.getElem_cons_zero, Act.put, List.setIfInBounds_toArray, List.set_cons_zero, List.set_cons_succ]
  refine wpAnyZ_take [] 3 ((.slice (some ⟨g, 0, none⟩) k k)) rfl (by kernel_rfl) (fun _ _ _ h => h) trivial rfl (by intro wz _; go_simp) ?_
  try simp only [List.getElem_toArray, List.getElem_cons_succ, List.getElem_cons_zero, Act.put, List.setIfInBounds_toArray, List.set_cons_zero, List.set_cons_succ]
  refine wpAnyZ_take [] 4 (.int .i64 (k : Int)) rfl (by kernel_rfl) (fun _ _ _ h => h) trivial rfl (by intro wz _; go_simp) ?_
  try simp only [List.getElem_toArray, List.getElem_cons_succ, List.getElem_cons_zero, Act.put, List.setIfInBounds_toArray, List.set_cons_zero, List.set_cons_succ]
  refine wpAnyZ_take [] 5 ((.slice (some ⟨g, 0, none⟩) 0 0)) rfl (by kernel_rfl) (fun _ _ _ h => h) trivial rfl (by intro wz _; go_simp) ?_
  try simp only [List.getElem_toArray, List.getElem_cons_succ, List.getElem_cons_zero, Act.put, List.setIfInBounds_toArray, List.set_cons_zero, List.set_cons_succ]
  refine wpAnyZ_oneB 6 rfl (by kernel_rfl) (fun K hK => ?_)
  refine step_app (v := .slice (some ⟨g, 0, none⟩) (j) k) rfl rfl (.tmp 22) (.tmp 25) rfl rfl rfl hrun ?_
  refine hK _ _ (fun _ => trivial) ?_
  try simp only [List.getElem_toArray, List.getElem_cons_succ, List.getElem_cons_zero, Act.put, List.setIfInBounds_toArray, List.set_cons_zero, List.set_cons_succ]
  refine wpAnyZ_take [] 7 (.slice (some ⟨g, 0, none⟩) (j) k) rfl (by kernel_rfl) (fun _ _ _ h => h) trivial rfl (by intro wz _; go_simp) ?_
  try simp only [List.getElem_toArray, List.getElem_cons_succ, List.getElem_cons_zero, Act.put, List.setIfInBounds_toArray, List.set_cons_zero, List.set_cons_succ]
  refine wpAnyZ_doneB (by kernel_rfl) ?_ _
  go_wp2
  go_ret
  exact ⟨by rw [eN]; rfl, hO, gg⟩
set_option maxHeartbeats 16000000 in
theorem deleteK_any (g n cap lo j k : Nat) (ks : List Kw) (w : World) (h : OwK w lo (some ⟨g, 0, none⟩) n cap ks) (hk : k = j + 1) (hkn : k ≤ n) (hn2 : n ≤ 1000) :
    Calls Try.prog 27 #[.slice (some ⟨g, 0, none⟩) n cap, .int .i64 (j : Int), .int .i64 (k : Int)] w fun e w' => e = .returned (.slice (some ⟨g, 0, none⟩) (n - 1) cap) ∧ OwK w' lo (some ⟨g, 0, none⟩) (n - 1) cap (ks.eraseIdx j) ∧ w.grownBy w' (some g) := by
  have hmx := h.max
  have hmm : maxLen ≤ 9223372036854775807 := by decide
  have hl := h.len
  obtain ⟨p, rfl⟩ : ∃ p, n = p + k := ⟨n - k, by omega⟩
  obtain ⟨i0, hi, hz0, hz1, hz2⟩ := info_parts Try.info_ky
  have hT := own_takeK h.own hl j (by omega)
  have eer : flK (ks.take j) ++ flK (ks.drop k) = flK (ks.eraseIdx j) := by rw [← flK_app, List.eraseIdx_eq_take_drop_succ, hk]
  have k1 : ((j : Int) == (k : Int)) = false := beq_false_of_ne (by omega)
  have k2 : (j : Int) ≤ (k : Int) := by omega
  have k3 : (k : Int) ≤ (p : Int) + (k : Int) := by omega
  have k4 : ((p : Int) + (k : Int)) ≤ (cap : Int) := by omega
  have k5 : p + k ≤ cap := hmx.1
  have k6 : (j : Int) + (p : Int) ≤ (p : Int) + (k : Int) := by omega
  have k7 : ¬ cap = j + p := by omega
  have k8 : k ≤ cap := by omega
  have k9 : (k : Int) ≤ (cap : Int) := by omega
  have k10 : (j : Int) ≤ (cap : Int) := by omega
  have k11 : ¬ p + k = j := by omega
  have eN : p + k - 1 = j + p := by omega
  have fin : ∀ (ad : Addr) (mm cc : Nat), mm = p → (∀ q u, (flK (ks.drop k))[q]? = some u → w.drew.cell? (ad.add q) = some u) → ∃ w2 w3, (Builtin.append_ #[22, 22] 22 #[.slice (some ⟨g, 0, none⟩) j cap, .slice (some ad) mm cc]).run Try.prog w.drew = .ok (.slice (some ⟨g, 0, none⟩) (j + p) cap) w2 ∧ (∀ ty, (Builtin.clear_ #[22] ty #[.slice (some ⟨g, (j + p) * 4, none⟩) (p + k - (j + p)) (cap - (j + p))]).run Try.prog w2 = .ok (.tuple #[]) w3) ∧ OwK w3 lo (some ⟨g, 0, none⟩) (p + k - 1) cap (ks.eraseIdx j) ∧ w.grownBy w3 (some g) := by
    intro ad mm cc hmm' hsrc
    subst hmm'
    obtain ⟨w2, hrun, r1, r2⟩ := run_append_fits (P := Try.prog) w.drew 0 22 22 27 i0 4 Try.underlying22 hi hz1 g j cap (flK (ks.take j)) (hT.kept (grown_drew w none) (.inr (by simp [Value.ownBlock]))) ad mm cc (flK (ks.drop k)) (by rw [flK_len, List.length_drop]; omega) hsrc (flK_one _) (by omega)
    rw [eer] at r1
    obtain ⟨A3, g3⟩ := own_clrK [.int .i64 0, .slice none 0 0, .int .i64 0, .int .i64 0] ((j + mm) * 4) w2 r1 (Nat.le_refl _)
    have gg := grown_trans (grown_trans (grown_drew w (some g)) r2) g3
    refine ⟨w2, _, hrun, fun ty => ?_, h.erase (by omega) (by rw [eN]; exact A3) gg, gg⟩
    rw [show mm + k - (j + mm) = 1 by omega]
    rcases r1.2 with ⟨h1, _⟩ | ⟨g', cap', cur, h1, _, h3, _, _, h6, _⟩
    · simp at h1
    · simp only [Value.slice.injEq, Option.some.injEq, Addr.mk.injEq] at h1
      obtain ⟨⟨rfl, _⟩, _, rfl⟩ := h1
      refine run_clear_key w2 ty g _ _ (fun q hq => ?_) (fun q hq => frozen_of_row w2 g _ _ _ h3)
      rw [cell_of_row _ _ _ _ _ _ h3, Array.getElem?_eq_getElem (by omega)]
      rfl
  by_cases hck : cap = k
  · have hp0 : p = 0 := by omega
    subst hp0
    subst hck
    rw [Nat.zero_add] at h ⊢
    exact deleteL_any g lo j cap ks w h hk (by omega)
  · obtain ⟨w2, w3, hrun, hcl, hO, gg⟩ := fin ⟨g, k * 4, none⟩ p (cap - k) rfl (fun q u hu => by
      rw [← flK_drop, List.getElem?_drop] at hu
      rw [addr_add]
      have := (h.own.kept (grown_drew w none) (.inr (by simp [Value.ownBlock]))).cells (g := g) rfl (k * 4 + q) u hu
      rw [addr_add, Nat.zero_add] at this
      exact this)
    clear fin
    have hck' : ¬ (k : Int) = (cap : Int) := by omega
    clear eer hT hk hmx hl hkn
    go_enter Try.func27, Try.ntmps27
    go_wp2
    refine wp_regionL (fun _ => True) [] #[false, false, false, false, false, false, false, false] rfl (by kernel_rfl) ?_
    refine wpAnyZ_take [] 0 ((.slice (some ⟨g, 0, none⟩) (p + k) cap)) rfl (by kernel_rfl) (fun _ _ _ h => h) trivial rfl (by intro wz _; go_simp) ?_
    try simp only [List.getElem_toArray, List.getElem_cons_succ, List.getElem_cons_zero, Act.put, List.setIfInBounds_toArray, List.set_cons_zero, List.set_cons_succ]
    refine wpAnyZ_take [] 1 (.int .i64 (j : Int)) rfl (by kernel_rfl) (fun _ _ _ h => h) trivial rfl (by intro wz _; go_simp) ?_
    try simp only [List.getElem_toArray, List.getElem_cons_succ, List.getElem_cons_zero, Act.put, List.setIfInBounds_toArray, List.set_cons_zero, List.set_cons_succ]
    refine wpAnyZ_take [] 2 ((.slice (some ⟨g, 0, none⟩) j cap)) rfl (by kernel_rfl) (fun _ _ _ h => h) trivial rfl (by intro wz _; go_simp) ?_
    try simp only [List.getElem_toArray, List.getElem_cons_succ, List.getElem_cons_zero, Act.put, List.setIfInBounds_toArray, List.set_cons_zero, List.set_cons_succ]
    refine wpAnyZ_take [] 3 ((.slice (some ⟨g, 0, none⟩) (p + k) cap)) rfl (by kernel_rfl) (fun _ _ _ h => h) trivial rfl (by intro wz _; go_simp) ?_
    try simp only [List.getElem_toArray, List.getElem_cons_succ, List.getElem_cons_zero, Act.put, List.setIfInBounds_toArray, List.set_cons_zero, List.set_cons_succ]
    refine wpAnyZ_take [] 4 (.int .i64 (k : Int)) rfl (by kernel_rfl) (fun _ _ _ h => h) trivial rfl (by intro wz _; go_simp) ?_
    try simp only [List.getElem_toArray, List.getElem_cons_succ, List.getElem_cons_zero, Act.put, List.setIfInBounds_toArray, List.set_cons_zero, List.set_cons_succ]
    refine wpAnyZ_take [] 5 ((.slice (some ⟨g, k * 4, none⟩) p (cap - k))) rfl (by kernel_rfl) (fun _ _ _ h => h) trivial rfl (by intro wz _; go_simp) ?_
    try simp only [List.getElem_toArray, List.getElem_cons_succ, List.getElem_cons_zero, Act.put, List.setIfInBounds_toArray, List.set_cons_zero, List.set_cons_succ]
    refine wpAnyZ_oneB 6 rfl (by kernel_rfl) (fun K hK => ?_)
    refine step_app (v := .slice (some ⟨g, 0, none⟩) (j + p) cap) rfl rfl (.tmp 22) (.tmp 25) rfl rfl rfl hrun ?_
    refine hK _ _ (fun _ => trivial) ?_
    try simp only [List.getElem_toArray, List.getElem_cons_succ, List.getElem_cons_zero, Act.put, List.setIfInBounds_toArray, List.set_cons_zero, List.set_cons_succ]
    refine wpAnyZ_take [] 7 (.slice (some ⟨g, 0, none⟩) (j + p) cap) rfl (by kernel_rfl) (fun _ _ _ h => h) trivial rfl (by intro wz _; go_simp) ?_
    try simp only [List.getElem_toArray, List.getElem_cons_succ, List.getElem_cons_zero, Act.put, List.setIfInBounds_toArray, List.set_cons_zero, List.set_cons_succ]
    refine wpAnyZ_doneB (by kernel_rfl) ?_ _
    go_wp2
    go_ret
    exact ⟨by rw [eN]; rfl, hO, gg⟩
end Go.Proofs.Ytdpgblojdppfeaa
