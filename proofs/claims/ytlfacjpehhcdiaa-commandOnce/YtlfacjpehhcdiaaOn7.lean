import Derived.Deep.Upon
import Derived.Test.YtlfacjpehhcdiaaOn4
import Derived.Test.YtlfacjpehhcdiaaOn5
import Derived.Test.YtlfacjpehhcdiaaOn6
namespace Go.Proofs.Ytlfacjpehhcdiaa
open Go.RowKit
set_option maxRecDepth 100000
set_option linter.unusedVariables false
set_option linter.unusedSimpArgs false

section
theorem AnsX.take {e : TypeId} {w : World} {lo g n cap : Nat} {X : List Value} (h : AnsX e w lo (some ⟨g, 0, none⟩) n cap X) (m : Nat) (hm : m ≤ n) : AnsX e w lo (some ⟨g, 0, none⟩) m cap (X.take m) := by
  have hl := h.len
  refine ⟨⟨by rw [List.length_take]; omega, ?_⟩, fun u hu => h.one u (List.mem_of_mem_take hu), fun g' h' => h.new g' h'⟩
  rcases h.own.2 with ⟨h1, _⟩ | ⟨g', cap', cur, h1, h2, h3, h4, h5, h6, h7⟩
  · simp at h1
  · simp only [Value.slice.injEq, Option.some.injEq, Addr.mk.injEq] at h1
    obtain ⟨⟨rfl, _⟩, _, rfl⟩ := h1
    refine .inr ⟨g, cap, cur, rfl, h2, h3, by omega, h5, h6, ?_⟩
    rw [← h7, List.take_take]
    congr 1
    omega
theorem AnsX.clr {e : TypeId} {lo g n cap : Nat} {X : List Value} (vs : List Value) (h1 : ∀ v, v ∈ vs → v.oneCell' = true) : ∀ (o : Nat) (w : World), AnsX e w lo (some ⟨g, 0, none⟩) n cap X → X.length ≤ o → AnsX e (w.setCells g o vs) lo (some ⟨g, 0, none⟩) n cap X ∧ w.grownBy (w.setCells g o vs) (some g) := by
  induction vs with
  | nil => exact fun o w h _ => ⟨h, World.grownBy.refl _ _⟩
  | cons v vs ih =>
    intro o w h ho
    have h2 := h.set o v (h1 v (List.mem_cons_self ..))
    rw [List.set_eq_of_length_le ho] at h2
    obtain ⟨k1, k2⟩ := ih (fun u hu => h1 u (List.mem_cons_of_mem _ hu)) (o + 1) _ h2 (by omega)
    exact ⟨k1, grown_trans (grown_set w g o v) k2⟩
theorem step_app {w w' : World} {ops : Array Oper} {o : Oper} {a : Act} {K : Act → World → Prop} {Q : Exit → Act → World → Prop} {E : Prop} {t : TypeId} {v v1 v2 : Value} (hg : o.guard = none) (ht : o.type = t) (s x : Operand)
    (hop : o.op = Op.call { callee := .builtin .append, args := #[s, x], argTypes := #[t, t] }) (hs : a.eval s = v1) (hx : a.eval x = v2) (hrun : (Builtin.append_ #[t, t] t #[v1, v2]).run Try.prog w = .ok v w') (h : K (a.put o.dst v) w') :
    if Region.wanted o (yielded ops a.tmps) = true then Oper.wp Try.prog o a w K Q else E := by
  have hw : Region.wanted o (yielded ops a.tmps) = true := by simp [Region.wanted, hg]
  rw [if_pos hw]
  unfold Oper.wp
  simp [execOp, hop, resolve, invoke, builtin, ht, hs, hx, hrun, Result.andThen, Oper.upon]
  exact h
theorem flatR_one (rs : List Rw) : ∀ u, u ∈ flatR rs → u.oneCell' = true := by
  intro u hu
  obtain ⟨r, _, rfl⟩ := List.mem_map.1 hu
  rfl
theorem flatR_drop (rs : List Rw) (k : Nat) : (flatR rs).drop k = flatR (rs.drop k) := by simp [flatR, List.map_drop]
theorem flatR_len (rs : List Rw) : (flatR rs).length = rs.length := by simp [flatR]
theorem OwR.x {w : World} {lo : Nat} {a : Option Addr} {n c : Nat} {rs : List Rw} (h : OwR w lo a n c rs) : AnsX 29 w lo a n c (flatR rs) := ⟨h.own, flatR_one rs, h.new⟩
theorem zero_row (w : World) : (zeroValue 29).run Try.prog w = .ok (.slice none 0 0) w := by go_simp
/-- rows without the first of them -/
theorem OwR.less {w w' : World} {lo g : Nat} {n c k : Nat} {rs : List Rw} (h : OwR w lo (some ⟨g, 0, none⟩) n c rs) (hx : AnsX 29 w' lo (some ⟨g, 0, none⟩) (n - k) c (flatR (rs.drop k))) (hg : w.grownBy w' (some g)) : OwR w' lo (some ⟨g, 0, none⟩) (n - k) c (rs.drop k) := by
  refine ⟨hx.own, by rw [List.length_drop, h.len], hx.new, fun r hr => ?_, h.apart.sublist (List.drop_sublist _ _)⟩
  have hm := List.mem_of_mem_drop hr
  refine (h.each r hm).kept hg ?_
  cases e : (Value.slice r.a r.n r.c).ownBlock with
  | none => exact .inl rfl
  | some x => exact .inr (fun e2 => by
      have e2 : x = g := Option.some.inj e2
      subst e2
      exact own_apart (h.each r hm).own h.own (by decide) x e rfl)
set_option maxHeartbeats 16000000 in
theorem deleteAll_any (g n lo : Nat) (rs : List Rw) (w : World) (h : OwR w lo (some ⟨g, 0, none⟩) n n rs) (hk : 1 ≤ n) (hn2 : n ≤ 1000) :
    Calls Try.prog 43 #[.slice (some ⟨g, 0, none⟩) n n, .int .i64 0, .int .i64 (n : Int)] w fun e w' => e = .returned (.slice (some ⟨g, 0, none⟩) 0 n) ∧ OwR w' lo (some ⟨g, 0, none⟩) 0 n [] ∧ w.grownBy w' (some g) := by
  have hX := h.x
  have hmx := hX.max
  have hmm : maxLen ≤ 9223372036854775807 := by decide
  obtain ⟨i0, hi, hz0, hz1, hz2⟩ := info_parts Try.info_rw
  have h0 := hX.take 0 (Nat.zero_le _)
  rw [List.take_zero] at h0
  have k0 : ¬ n = 0 := by omega
  have k1 : ((0 : Int) == (n : Int)) = false := beq_false_of_ne (by omega)
  have k2 : (0 : Int) ≤ (n : Int) := by omega
  obtain ⟨w2, hrun, r1, r2⟩ := run_append_fits (P := Try.prog) w.drew 0 23 23 29 i0 1 Try.underlying23 hi hz1 g 0 n [] (h0.keep (grown_drew w none)).own ⟨g, 0, none⟩ 0 0 [] rfl (fun j u hu => by cases hu) (fun u hu => by cases hu) (by omega)
  have A2 : AnsX 29 w2 lo (some ⟨g, 0, none⟩) 0 n [] := ⟨r1, (fun u hu => by cases hu), hX.new⟩
  obtain ⟨A3, g3⟩ := AnsX.clr (X := ([] : List Value)) (List.replicate n (.slice none 0 0)) (by intro v hv; rw [List.eq_of_mem_replicate hv]; rfl) 0 w2 A2 (Nat.zero_le _)
  have hcl : ∀ ty, (Builtin.clear_ #[23] ty #[.slice (some ⟨g, 0, none⟩) n n]).run Try.prog w2 = .ok (.tuple #[]) (w2.setCells g 0 (List.replicate n (.slice none 0 0))) := by
    intro ty
    refine Lib.run_clear_slice w2 23 29 ty _ Try.underlying23 zero_row rfl rfl g 0 n _ (by omega) (fun j hj => ?_) (fun j hj => A2.free _)
    rcases A2.own.2 with ⟨h1, _⟩ | ⟨g', cap', cur, h1, _, h3, _, _, h6, _⟩
    · simp at h1
    · simp only [Value.slice.injEq, Option.some.injEq, Addr.mk.injEq] at h1
      obtain ⟨⟨rfl, _⟩, _, rfl⟩ := h1
      rw [cell_of_row _ _ _ _ _ _ h3, Array.getElem?_eq_getElem (by omega)]
      rfl
  have gg := grown_trans (grown_trans (grown_drew w (some g)) r2) g3
  have hfin : OwR (w2.setCells g 0 (List.replicate n (.slice none 0 0))) lo (some ⟨g, 0, none⟩) 0 n [] := ⟨A3.own, rfl, A3.new, (fun r hr => by cases hr), List.Pairwise.nil⟩
  generalize w2.setCells g 0 (List.replicate n (.slice none 0 0)) = w3 at *
  go_enter Try.func43, Try.ntmps43
  go_wp2
  refine wp_regionL (fun _ => True) [] #[false, false, false, false, false, false, false, false] rfl (by kernel_rfl) ?_
  refine wpAnyZ_take [] 0 ((.slice (some ⟨g, 0, none⟩) n n)) rfl (by kernel_rfl) (fun _ _ _ h => h) trivial rfl (by intro wz _; go_simp) ?_
  try simp only [List.getElem_toArray, List.getElem_cons_succ, List.getElem_cons_zero, Act.put, List.setIfInBounds_toArray, List.set_cons_zero, List.set_cons_succ]
  refine wpAnyZ_take [] 1 (.int .i64 0) rfl (by kernel_rfl) (fun _ _ _ h => h) trivial rfl (by intro wz _; go_simp) ?_
  try simp only [List.getElem_toArray, List.getElem_cons_succ, List.getElem_cons_zero, Act.put, List.setIfInBounds_toArray, List.set_cons_zero, List.set_cons_succ]
  refine wpAnyZ_take [] 2 ((.slice (some ⟨g, 0, none⟩) 0 n)) rfl (by kernel_rfl) (fun _ _ _ h => h) trivial rfl (by intro wz _; go_simp) ?_
  try simp only [List.getElem_toArray, List.getElem_cons_succ, List.getElem_cons_zero, Act.put, List.setIfInBounds_toArray, List.set_cons_zero, List.set_cons_succ]
  refine wpAnyZ_take [] 3 ((.slice (some ⟨g, 0, none⟩) n n)) rfl (by kernel_rfl) (fun _ _ _ h => h) trivial rfl (by intro wz _; go_simp) ?_
  try simp only [List.getElem_toArray, List.getElem_cons_succ, List.getElem_cons_zero, Act.put, List.setIfInBounds_toArray, List.set_cons_zero, List.set_cons_succ]
  refine wpAnyZ_take [] 4 (.int .i64 (n : Int)) rfl (by kernel_rfl) (fun _ _ _ h => h) trivial rfl (by intro wz _; go_simp) ?_
  try simp only [List.getElem_toArray, List.getElem_cons_succ, List.getElem_cons_zero, Act.put, List.setIfInBounds_toArray, List.set_cons_zero, List.set_cons_succ]
  refine wpAnyZ_take [] 5 ((.slice (some ⟨g, 0, none⟩) 0 0)) rfl (by kernel_rfl) (fun _ _ _ h => h) trivial rfl (by intro wz _; go_simp) ?_
  try simp only [List.getElem_toArray, List.getElem_cons_succ, List.getElem_cons_zero, Act.put, List.setIfInBounds_toArray, List.set_cons_zero, List.set_cons_succ]
  refine wpAnyZ_oneB 6 rfl (by kernel_rfl) (fun K hK => ?_)
  refine step_app (v := .slice (some ⟨g, 0, none⟩) 0 n) rfl rfl (.tmp 22) (.tmp 25) rfl rfl rfl hrun ?_
  refine hK _ _ (fun _ => trivial) ?_
  try simp only [List.getElem_toArray, List.getElem_cons_succ, List.getElem_cons_zero, Act.put, List.setIfInBounds_toArray, List.set_cons_zero, List.set_cons_succ]
  refine wpAnyZ_take [] 7 (.slice (some ⟨g, 0, none⟩) 0 n) rfl (by kernel_rfl) (fun _ _ _ h => h) trivial rfl (by intro wz _; go_simp) ?_
  try simp only [List.getElem_toArray, List.getElem_cons_succ, List.getElem_cons_zero, Act.put, List.setIfInBounds_toArray, List.set_cons_zero, List.set_cons_succ]
  refine wpAnyZ_doneB (by kernel_rfl) ?_ _
  go_wp2
  go_ret
  exact ⟨rfl, hfin, gg⟩

set_option maxHeartbeats 16000000 in
theorem deleteR_any (g n cap lo k : Nat) (rs : List Rw) (w : World) (h : OwR w lo (some ⟨g, 0, none⟩) n cap rs) (hk : 1 ≤ k) (hkn : k ≤ n) (hn2 : n ≤ 1000) :
    Calls Try.prog 43 #[.slice (some ⟨g, 0, none⟩) n cap, .int .i64 0, .int .i64 (k : Int)] w fun e w' => e = .returned (.slice (some ⟨g, 0, none⟩) (n - k) cap) ∧ OwR w' lo (some ⟨g, 0, none⟩) (n - k) cap (rs.drop k) ∧ w.grownBy w' (some g) := by
  have hX := h.x
  have hmx := hX.max
  have hmm : maxLen ≤ 9223372036854775807 := by decide
  have hl := h.len
  obtain ⟨m, rfl⟩ : ∃ m, n = m + k := ⟨n - k, by omega⟩
  obtain ⟨i0, hi, hz0, hz1, hz2⟩ := info_parts Try.info_rw
  have h0 := hX.take 0 (Nat.zero_le _)
  rw [List.take_zero] at h0
  have k0 : ¬ k = 0 := by omega
  have k1 : ((0 : Int) == (k : Int)) = false := beq_false_of_ne (by omega)
  have k2 : (0 : Int) ≤ (k : Int) := by omega
  have k3 : (k : Int) ≤ (m : Int) + (k : Int) := by omega
  have k4 : ((m : Int) + (k : Int)) ≤ (cap : Int) := by omega
  have k5 : m + k ≤ cap := hmx.1
  have k6 : (m : Int) ≤ (m : Int) + (k : Int) := by omega
  have k7 : ¬ cap = m := by omega
  have k8 : k ≤ cap := by omega
  have k9 : (k : Int) ≤ (cap : Int) := by omega
  by_cases hck : cap = k
  · have hm0 : m = 0 := by omega
    subst hm0
    subst hck
    rw [Nat.zero_add] at h ⊢
    refine (deleteAll_any g cap lo rs w h (by omega) (by omega)).mono ?_
    rintro e w' ⟨rfl, h1, h2⟩
    rw [Nat.sub_self, List.drop_eq_nil_of_le (by rw [h.len]; exact Nat.le_refl _)]
    exact ⟨rfl, h1, h2⟩
  · have hck' : ¬ (k : Int) = (cap : Int) := by omega
    obtain ⟨w2, hrun, r1, r2⟩ := run_append_fits (P := Try.prog) w.drew 0 23 23 29 i0 1 Try.underlying23 hi hz1 g 0 cap [] (h0.keep (grown_drew w none)).own ⟨g, k, none⟩ m (cap - k) (flatR (rs.drop k)) (by rw [flatR_len, List.length_drop]; omega) (fun j u hu => by
      have hj : j < (flatR (rs.drop k)).length := (List.getElem?_eq_some_iff.1 hu).1
      rw [flatR_len, List.length_drop] at hj
      rw [addr_add]
      rw [← flatR_drop, List.getElem?_drop] at hu
      exact (hX.keep (grown_drew w none)).cell (k + j) u hu) (flatR_one _) (by omega)
    rw [Nat.zero_add, List.nil_append] at r1
    rw [Nat.zero_add] at hrun
    have A2 : AnsX 29 w2 lo (some ⟨g, 0, none⟩) m cap (flatR (rs.drop k)) := ⟨r1, flatR_one _, hX.new⟩
    have hl2 : (flatR (rs.drop k)).length = m := by rw [flatR_len, List.length_drop]; omega
    obtain ⟨A3, g3⟩ := AnsX.clr (X := flatR (rs.drop k)) (List.replicate k (.slice none 0 0)) (by intro v hv; rw [List.eq_of_mem_replicate hv]; rfl) m w2 A2 (by omega)
    have hcl : ∀ ty, (Builtin.clear_ #[23] ty #[.slice (some ⟨g, m, none⟩) k (cap - m)]).run Try.prog w2 = .ok (.tuple #[]) (w2.setCells g m (List.replicate k (.slice none 0 0))) := by
      intro ty
      refine Lib.run_clear_slice w2 23 29 ty _ Try.underlying23 zero_row rfl rfl g m k _ (by omega) (fun j hj => ?_) (fun j hj => A2.free _)
      rcases A2.own.2 with ⟨h1, _⟩ | ⟨g', cap', cur, h1, _, h3, _, _, h6, _⟩
      · simp at h1
      · simp only [Value.slice.injEq, Option.some.injEq, Addr.mk.injEq] at h1
        obtain ⟨⟨rfl, _⟩, _, rfl⟩ := h1
        rw [cell_of_row _ _ _ _ _ _ h3, Array.getElem?_eq_getElem (by omega)]
        rfl
    have gg := grown_trans (grown_trans (grown_drew w (some g)) r2) g3
    have hfin : OwR (w2.setCells g m (List.replicate k (.slice none 0 0))) lo (some ⟨g, 0, none⟩) (m + k - k) cap (rs.drop k) := h.less (by rw [Nat.add_sub_cancel]; exact A3) gg
    generalize w2.setCells g m (List.replicate k (.slice none 0 0)) = w3 at *
    go_enter Try.func43, Try.ntmps43
    go_wp2
    refine wp_regionL (fun _ => True) [] #[false, false, false, false, false, false, false, false] rfl (by kernel_rfl) ?_
    refine wpAnyZ_take [] 0 ((.slice (some ⟨g, 0, none⟩) (m + k) cap)) rfl (by kernel_rfl) (fun _ _ _ h => h) trivial rfl (by intro wz _; go_simp) ?_
    try simp only [List.getElem_toArray, List.getElem_cons_succ, List.getElem_cons_zero, Act.put, List.setIfInBounds_toArray, List.set_cons_zero, List.set_cons_succ]
    refine wpAnyZ_take [] 1 (.int .i64 0) rfl (by kernel_rfl) (fun _ _ _ h => h) trivial rfl (by intro wz _; go_simp) ?_
    try simp only [List.getElem_toArray, List.getElem_cons_succ, List.getElem_cons_zero, Act.put, List.setIfInBounds_toArray, List.set_cons_zero, List.set_cons_succ]
    refine wpAnyZ_take [] 2 ((.slice (some ⟨g, 0, none⟩) 0 cap)) rfl (by kernel_rfl) (fun _ _ _ h => h) trivial rfl (by intro wz _; go_simp) ?_
    try simp only [List.getElem_toArray, List.getElem_cons_succ, List.getElem_cons_zero, Act.put, List.setIfInBounds_toArray, List.set_cons_zero, List.set_cons_succ]
    refine wpAnyZ_take [] 3 ((.slice (some ⟨g, 0, none⟩) (m + k) cap)) rfl (by kernel_rfl) (fun _ _ _ h => h) trivial rfl (by intro wz _; go_simp) ?_
    try simp only [List.getElem_toArray, List.getElem_cons_succ, List.getElem_cons_zero, Act.put, List.setIfInBounds_toArray, List.set_cons_zero, List.set_cons_succ]
    refine wpAnyZ_take [] 4 (.int .i64 (k : Int)) rfl (by kernel_rfl) (fun _ _ _ h => h) trivial rfl (by intro wz _; go_simp) ?_
    try simp only [List.getElem_toArray, List.getElem_cons_succ, List.getElem_cons_zero, Act.put, List.setIfInBounds_toArray, List.set_cons_zero, List.set_cons_succ]
    refine wpAnyZ_take [] 5 ((.slice (some ⟨g, k, none⟩) m (cap - k))) rfl (by kernel_rfl) (fun _ _ _ h => h) trivial rfl (by intro wz _; go_simp) ?_
    try simp only [List.getElem_toArray, List.getElem_cons_succ, List.getElem_cons_zero, Act.put, List.setIfInBounds_toArray, List.set_cons_zero, List.set_cons_succ]
    refine wpAnyZ_oneB 6 rfl (by kernel_rfl) (fun K hK => ?_)
    refine step_app (v := .slice (some ⟨g, 0, none⟩) m cap) rfl rfl (.tmp 22) (.tmp 25) rfl rfl rfl hrun ?_
    refine hK _ _ (fun _ => trivial) ?_
    try simp only [List.getElem_toArray, List.getElem_cons_succ, List.getElem_cons_zero, Act.put, List.setIfInBounds_toArray, List.set_cons_zero, List.set_cons_succ]
    refine wpAnyZ_take [] 7 (.slice (some ⟨g, 0, none⟩) m cap) rfl (by kernel_rfl) (fun _ _ _ h => h) trivial rfl (by intro wz _; go_simp) ?_
    try simp only [List.getElem_toArray, List.getElem_cons_succ, List.getElem_cons_zero, Act.put, List.setIfInBounds_toArray, List.set_cons_zero, List.set_cons_succ]
    refine wpAnyZ_doneB (by kernel_rfl) ?_ _
    go_wp2
    go_ret
    exact ⟨by rw [Nat.add_sub_cancel]; rfl, hfin, gg⟩

set_option maxHeartbeats 16000000 in
/-- 'send': an order goes up -/
theorem send3_any (g : Nat) (cr : Nat) (nx ah : Int) (sa : Option Addr) (sn sc : Nat) (qa : Option Addr) (qn qc : Nat) (ti pa tr li si pu hl : Int) (ua : Option Addr) (un uc lo : Nat) (us : List Rw) (c0 : Int) (bp co : Bool) (sq : Nat) (a : Option Addr) (n c : Nat) (D : List Nat) (w : World)
    (hB : BxS w g 57 #[.int .i64 (cr : Int), .int .i64 nx, .int .i64 ah, .slice sa sn sc, .slice qa qn qc, .int .i64 ti, .int .i64 pa, .int .i64 tr, .int .i64 li, .int .i64 si, .int .i64 pu, .int .i64 hl, .slice ua un uc]) (hU : OwR w lo ua un uc us) (hlo : lo ≤ w.heap.size) (hun : un ≤ 10000) (hR : Rd w a n c D) (hcr : cr < 1024) (hsq : sq < 256) (h1 : 1 ≤ n) (h2 : n ≤ 1017) :
    Calls Try.prog 44 #[.pointer (some ⟨g, 0, none⟩), .agg (orA c0 bp co sq a n c)] w fun e w' => ∃ ua' uc' r, e = .returned (.tuple #[]) ∧ BxS w' g 57 #[.int .i64 (cr : Int), .int .i64 nx, .int .i64 ah, .slice sa sn sc, .slice qa qn qc, .int .i64 ti, .int .i64 pa, .int .i64 tr, .int .i64 li, .int .i64 si, .int .i64 pu, .int .i64 hl, .slice ua' (un + 1) uc'] ∧ OwR w' lo ua' (un + 1) uc' (us ++ [r]) ∧ r.D = orL cr bp co sq D ∧ Fz (fun i => i = g ∨ (Value.slice ua un uc).ownBlock = some i) w w' ∧ (∀ x, r.v.ownBlock = some x → w.heap.size ≤ x) ∧ (∀ x, (Value.slice ua' (un + 1) uc').ownBlock = some x → (Value.slice ua un uc).ownBlock = some x ∨ w.heap.size ≤ x) := by
  obtain ⟨i0, hi, hz0, hz1, hz2⟩ := info_parts Try.info_rw
  have hO := fun (wz : World) hz => obytes_any cr bp co sq a n c D wz hz hcr hsq h1 h2
  have b0 := BxS.new w 62 #[.int .i64 c0, .bool bp, .bool co, .int .i64 (sq : Int), .slice a n c]
  have g0 := World.grownBy_alloc w (.cells #[.int .i64 c0, .bool bp, .bool co, .int .i64 (sq : Int), .slice a n c] 62) none
  unfold orA at hO ⊢
  generalize hw0 : w.alloc (.cells #[.int .i64 c0, .bool bp, .bool co, .int .i64 (sq : Int), .slice a n c] 62) = w0 at b0 g0
  have B0 := hB.keep g0 (by simp)
  have lt0 := hB.lt
  obtain ⟨h0, h1, h2, h3, h4, h5, h6, h7, h8, h9, h10, h11, h12⟩ := B0.cell13
  have t1 : True := trivial
  go_enter Try.func44, Try.ntmps44
  go_wp2_with (first
    | (have _t := t1; refine wpList_stC _ rfl _ _ _ rfl w.heap.size 0 62 #[.int .i64 c0, .bool bp, .bool co, .int .i64 (sq : Int), .slice a n c] #[.int .i64 (cr : Int), .bool bp, .bool co, .int .i64 (sq : Int), .slice a n c] (.int .i64 (cr : Int)) rfl rfl b0 (stc_int _ _ _) (by simp) rfl ?_; clear t1; intro w1 b1 g1))
  have G1 := grown_far g0 g1 (fun q e => by cases e; exact Nat.le_refl _)
  have B1 := B0.keep g1 (by simp; omega)
  have U1 := hU.keep G1
  have R1 := hR.keep G1
  clear h0 h1 h2 h3 h4 h5 h6 h7 h8 h9 h10 h11 h12
  obtain ⟨h0, h1, h2, h3, h4, h5, h6, h7, h8, h9, h10, h11, h12⟩ := B1.cell13
  obtain ⟨o0, o1, o2, o3, o4⟩ := b1.cell5
  have hs1 := G1.size
  have ub := U1.box B1 (by decide)
  go_region_law (first
    | (go_simp; go_at_call 48; refine (hO _ (R1.keep (grown_drew w1 none))).mono ?_; rintro e w2 ⟨a2, c2, rfl, hA2, g2⟩; have g12 := grown_trans (grown_drew w1 none) g2; have B2 := B1.keep g12 (by simp); have U2 := U1.keep g12; obtain ⟨k0, k1, k2, k3, k4, k5, k6, k7, k8, k9, k10, k11, k12⟩ := B2.cell13; have gA := World.grownBy_alloc w2 (.cells #[.slice a2 (n + 7) c2] 29) none; have m12 := (B2.keep gA (by simp)).cell13.2.2.2.2.2.2.2.2.2.2.2.2)
    | (refine step_apS _ rfl _ _ 23 29 i0 zr 1 24 Try.underlying23 hi hz0 hz1 hz2 rfl (by decide) rfl (.slice ua un uc) un (flatR us) rfl (U2.own.alloc _) ⟨w2.heap.size, 0, none⟩ 1 1 [.slice a2 (n + 7) c2] rfl rfl (one_row w2 _) (by simp [Value.oneCell']) (by decide) (by unfold maxLen; omega) (by omega) ?_; intro gx cx w3 hgx g3 hown3; have B3 := (B2.keep gA (by simp)).keep g3 (fun e => ub e.symm); have f3 := B3.free 12; have p12 := B3.cell13.2.2.2.2.2.2.2.2.2.2.2.2))
  all_goals
    have BS : BxS _ g 57 #[.int .i64 (cr : Int), .int .i64 nx, .int .i64 ah, .slice sa sn sc, .slice qa qn qc, .int .i64 ti, .int .i64 pa, .int .i64 tr, .int .i64 li, .int .i64 si, .int .i64 pu, .int .i64 hl, .slice (some ⟨gx, 0, none⟩) (un + 1) cx] := B3.set 12 (.slice (some ⟨gx, 0, none⟩) (un + 1) cx)
    have gS := grown_set w3 g 12 (.slice (some ⟨gx, 0, none⟩) (un + 1) cx)
    have hz : w1.heap.size ≤ w2.heap.size := g12.size
    have hUA := U2.keep gA
    have hrA := (hA2.wide (show lo ≤ w1.drew.heap.size from Nat.le_trans hlo hs1)).keep gA
    have hap : ∀ q, q ∈ us → ∀ y, q.v.ownBlock = some y → (Rw.mk a2 (n + 7) c2 (orL cr bp co sq D)).v.ownBlock ≠ some y := by
      intro q hq y hy e
      have h1 : w1.heap.size ≤ y := hA2.new y e
      have h2 := U1.bef.2 q hq y hy
      omega
    have hpu := OwR.push (r := ⟨a2, n + 7, c2, orL cr bp co sq D⟩) hUA hrA hap g3 hown3 (by
      rcases hgx with h | h
      · exact .inl h
      · exact .inr (by have := gA.size; omega))
    have FS : Fz (fun i => i = g) w3 (w3.setCell ⟨g, 12, none⟩ (.slice (some ⟨gx, 0, none⟩) (un + 1) cx)) := (Fz.refl _ w3).step gS (fun q e _ => by cases e; rfl)
    have hfin := hpu.fz FS (fun x hx e => by
      subst e
      rcases hx with h | ⟨r, hr, h⟩
      · exact hpu.box B3 (by decide) h
      · exact (hpu.each r hr).box B3 (by decide) h)
    have FF : Fz (fun i => i = g ∨ (Value.slice ua un uc).ownBlock = some i) w (w3.setCell ⟨g, 12, none⟩ (.slice (some ⟨gx, 0, none⟩) (un + 1) cx)) :=
      ((((Fz.refl _ w).step G1 (fun q e _ => by cases e)).step (grown_trans g12 gA) (fun q e _ => by cases e)).step g3 (fun q e _ => .inr e)).step gS (fun q e _ => by cases e; exact .inl rfl)
    have hnew1 : ∀ x, (Rw.mk a2 (n + 7) c2 (orL cr bp co sq D)).v.ownBlock = some x → w.heap.size ≤ x := fun x e => by
      have h1 : w1.heap.size ≤ x := hA2.new x e
      omega
    have hnew2 : ∀ x, (Value.slice (some ⟨gx, 0, none⟩) (un + 1) cx).ownBlock = some x → (Value.slice ua un uc).ownBlock = some x ∨ w.heap.size ≤ x := fun x e => by
      have e : gx = x := Option.some.inj e
      subst e
      rcases hgx with h | h
      · exact .inl h
      · exact .inr (by have := gA.size; omega)
    go_wp2
    go_end0
    exact ⟨_, _, _, rfl, BS, hfin, rfl, FF, hnew1, hnew2⟩

theorem wrap_in (n : Int) (h0 : -9223372036854775808 ≤ n) (h1 : n ≤ 9223372036854775807) : IntKind.i64.wrap n = n := by
  exact wrap_i64_in n h0 h1
/-- a hand at work: its box, its rows, what goes up -/
structure HW (lo : Nat) (w : World) (g : Nat) (d : Hd) (Z : Hx) (rs qs : List Rw) (ua : Option Addr) (un uc : Nat) (us : List Rw) (U : List (List Nat)) : Prop where
  box : BxS w g 57 #[.int .i64 d.cr, .int .i64 d.nx, .int .i64 d.ah, .slice Z.sa Z.sn Z.sc, .slice Z.qa Z.qn Z.qc, .int .i64 d.ti, .int .i64 d.pa, .int .i64 d.tr, .int .i64 d.li, .int .i64 d.si, .int .i64 d.pu, .int .i64 d.hl, .slice ua un uc]
  gl : lo ≤ g
  o : OwHd w lo Z rs qs d
  u : OwW w lo ua un uc us U
  ap : ∀ x, Ofr (.slice ua un uc) us x → ¬ Hbl Z rs qs x
theorem HW.keep {lo : Nat} {w w' : World} {g : Nat} {d : Hd} {Z : Hx} {rs qs : List Rw} {ua : Option Addr} {un uc : Nat} {us : List Rw} {U : List (List Nat)} (h : HW lo w g d Z rs qs ua un uc us U) (hg : w.grownBy w' none) : HW lo w' g d Z rs qs ua un uc us U := ⟨h.box.keep hg (by simp), h.gl, h.o.keep hg, h.u.keep hg, h.ap⟩
/-- its numbers are written -/
theorem HW.setI {lo : Nat} {w w' : World} {g : Nat} {d : Hd} {Z : Hx} {rs qs : List Rw} {ua : Option Addr} {un uc : Nat} {us : List Rw} {U : List (List Nat)} (h : HW lo w g d Z rs qs ua un uc us U) (d' : Hd) (hS : d'.S = d.S) (hQ : d'.Q = d.Q) (bx : BxS w' g 57 #[.int .i64 d'.cr, .int .i64 d'.nx, .int .i64 d'.ah, .slice Z.sa Z.sn Z.sc, .slice Z.qa Z.qn Z.qc, .int .i64 d'.ti, .int .i64 d'.pa, .int .i64 d'.tr, .int .i64 d'.li, .int .i64 d'.si, .int .i64 d'.pu, .int .i64 d'.hl, .slice ua un uc]) (hg : w.grownBy w' (some g)) : HW lo w' g d' Z rs qs ua un uc us U := by
  refine ⟨bx, h.gl, ⟨?_, ?_, h.o.ap⟩, h.u.fz (fz_of2 hg) (box_ofrC h.u h.box), h.ap⟩
  · rw [hS]; exact h.o.s.fz (fz_of2 hg) (box_ofrC h.o.s h.box)
  · rw [hQ]; exact h.o.q.fz (fz_of2 hg) (box_ofrC h.o.q h.box)
/-- an order goes up -/
theorem send4b_any (lo : Nat) (w : World) (g : Nat) (d : Hd) (Z : Hx) (rs qs : List Rw) (ua : Option Addr) (un uc : Nat) (us : List Rw) (U : List (List Nat)) (h : HW lo w g d Z rs qs ua un uc us U) (c0 : Int) (sq : Nat) (a : Option Addr) (n c : Nat) (D : List Nat) (hR : Rd w a n c D) (hcr : 0 ≤ d.cr ∧ d.cr ≤ 1023) (hsq : sq < 256) (h1 : 1 ≤ n) (h2 : n ≤ 1017) (hun : un ≤ 1000) :
    Calls Try.prog 44 #[.pointer (some ⟨g, 0, none⟩), .agg (orA c0 false false sq a n c)] w fun e w' => e = .returned (.tuple #[]) ∧ ∃ (ua' : Option Addr) (uc' : Nat) (us' : List Rw), HW lo w' g d Z rs qs ua' (un + 1) uc' us' (U ++ [orL d.cr.toNat false false sq D]) ∧ Fz (fun i => i = g ∨ (Value.slice ua un uc).ownBlock = some i) w w' ∧ (∀ x, (Value.slice ua' (un + 1) uc').ownBlock = some x → (Value.slice ua un uc).ownBlock = some x ∨ w.heap.size ≤ x) := by
  obtain ⟨cr, hc⟩ : ∃ cr : Nat, d.cr = (cr : Int) := ⟨d.cr.toNat, by omega⟩
  have hB := h.box
  rw [hc] at hB
  have hlo : lo ≤ w.heap.size := by have := h.box.lt; have := h.gl; omega
  refine (send3_any g cr d.nx d.ah Z.sa Z.sn Z.sc Z.qa Z.qn Z.qc d.ti d.pa d.tr d.li d.si d.pu d.hl ua un uc lo us c0 false false sq a n c D w hB h.u.o hlo (by omega) hR (by omega) hsq h1 h2).mono ?_
  rintro e w' ⟨ua', uc', r, rfl, b', o', rD, ff, n1, n2⟩
  have hne : ∀ x, Hbl Z rs qs x → ¬ (x = g ∨ (Value.slice ua un uc).ownBlock = some x) := fun x hx e => by
    rcases e with e | e
    · subst e
      rcases hx with hx | hx
      · exact box_ofrC h.o.s h.box _ hx rfl
      · exact box_ofrC h.o.q h.box _ hx rfl
    · exact h.ap x (.inl e) hx
  have eD : (us ++ [r]).map Rw.D = U ++ [orL d.cr.toNat false false sq D] := by
    rw [List.map_append, h.u.d, hc, Int.toNat_natCast]
    show U ++ [r.D] = _
    rw [rD]
  refine ⟨rfl, ua', uc', us ++ [r], ⟨by rw [hc]; exact b', h.gl, h.o.fz ff hne, ⟨o', eD⟩, fun x hx hb => ?_⟩, ff, n2⟩
  · have hxl := h.o.hi x hb
    rcases hx with hx | ⟨q, hq, hx⟩
    · rcases n2 x hx with e | e
      · exact h.ap x (.inl e) hb
      · omega
    · rcases List.mem_append.1 hq with hq | hq
      · exact h.ap x (.inr ⟨q, hq, hx⟩) hb
      · have hq := List.mem_singleton.1 hq
        subst hq
        have := n1 x hx
        omega
theorem send4_any (lo : Nat) (w : World) (g : Nat) (d : Hd) (Z : Hx) (rs qs : List Rw) (ua : Option Addr) (un uc : Nat) (us : List Rw) (U : List (List Nat)) (h : HW lo w g d Z rs qs ua un uc us U) (c0 : Int) (sq : Nat) (a : Option Addr) (n c : Nat) (D : List Nat) (hR : Rd w a n c D) (hcr : 0 ≤ d.cr ∧ d.cr ≤ 1023) (hsq : sq < 256) (h1 : 1 ≤ n) (h2 : n ≤ 1017) (hun : un ≤ 1000) :
    Calls Try.prog 44 #[.pointer (some ⟨g, 0, none⟩), .agg (orA c0 false false sq a n c)] w fun e w' => e = .returned (.tuple #[]) ∧ ∃ (ua' : Option Addr) (uc' : Nat) (us' : List Rw), HW lo w' g d Z rs qs ua' (un + 1) uc' us' (U ++ [orL d.cr.toNat false false sq D]) ∧ Fz (fun i => lo ≤ i) w w' := by
  refine (send4b_any lo w g d Z rs qs ua un uc us U h c0 sq a n c D hR hcr hsq h1 h2 hun).mono ?_
  rintro e w' ⟨rfl, ua', uc', us', hW, ff, n2⟩
  refine ⟨rfl, ua', uc', us', hW, Fz.trans (Fz.refl _ w) ff (fun i _ hi => ?_)⟩
  rcases hi with hi | hi
  · subst hi; exact h.gl
  · exact h.u.o.new i hi
/-- the number of the first that is sent -/
theorem first_any (lo : Nat) (w : World) (g : Nat) (d : Hd) (Z : Hx) (rs qs : List Rw) (ua : Option Addr) (un uc : Nat) (us : List Rw) (U : List (List Nat)) (h : HW lo w g d Z rs qs ua un uc us U) (hnx : 0 ≤ d.nx ∧ d.nx ≤ 255) (hs : d.S.length ≤ 127) :
    Calls Try.prog 42 #[.pointer (some ⟨g, 0, none⟩)] w fun e w' => e = .returned (.int .i64 ((d.nx - (d.S.length : Int)) % 256)) ∧ w.grownBy w' none := by
  have hl := h.o.s.len
  have kR := fun z wz => around_any z wz
  have hb := h.box
  obtain ⟨h0, h1, h2, h3, h4, h5, h6, h7, h8, h9, h10, h11, h12⟩ := hb.cell13
  rw [hl]
  have hw : IntKind.i64.wrap (d.nx - (Z.sn : Int)) = d.nx - (Z.sn : Int) := wrap_in _ (by omega) (by omega)
  go_enter Try.func42, Try.ntmps42
  go_wp2
  have hbd := hb.keep (grown_drew w none) (by simp)
  refine wp_regionL (fun wz => BxS wz g 57 #[.int .i64 d.cr, .int .i64 d.nx, .int .i64 d.ah, .slice Z.sa Z.sn Z.sc, .slice Z.qa Z.qn Z.qc, .int .i64 d.ti, .int .i64 d.pa, .int .i64 d.tr, .int .i64 d.li, .int .i64 d.si, .int .i64 d.pu, .int .i64 d.hl, .slice ua un uc]) [] #[false, false, false, false, false, false, false, false, false, false, false, false, false, false] rfl (by kernel_rfl) ?_
  refine wpAnyZ_take [] 0 (.pointer (some ⟨g, 0, none⟩)) rfl (by kernel_rfl) (fun _ _ _ h => h) hbd rfl (by intro wz hz; obtain ⟨z0, z1, z2, z3, z4, z5, z6, z7, z8, z9, z10, z11, z12⟩ := BxS.cell13 hz; go_simp) ?_
  try simp only [List.getElem_toArray, List.getElem_cons_succ, List.getElem_cons_zero, Act.put, List.setIfInBounds_toArray, List.set_cons_zero, List.set_cons_succ]
  refine wpAnyZ_take [] 1 (.pointer (some ⟨g, 0, none⟩)) rfl (by kernel_rfl) (fun _ _ _ h => h) hbd rfl (by intro wz hz; obtain ⟨z0, z1, z2, z3, z4, z5, z6, z7, z8, z9, z10, z11, z12⟩ := BxS.cell13 hz; go_simp) ?_
  try simp only [List.getElem_toArray, List.getElem_cons_succ, List.getElem_cons_zero, Act.put, List.setIfInBounds_toArray, List.set_cons_zero, List.set_cons_succ]
  refine wpAnyZ_take [] 2 (.pointer (some ⟨g, 0, none⟩)) rfl (by kernel_rfl) (fun _ _ _ h => h) hbd rfl (by intro wz hz; obtain ⟨z0, z1, z2, z3, z4, z5, z6, z7, z8, z9, z10, z11, z12⟩ := BxS.cell13 hz; go_simp) ?_
  try simp only [List.getElem_toArray, List.getElem_cons_succ, List.getElem_cons_zero, Act.put, List.setIfInBounds_toArray, List.set_cons_zero, List.set_cons_succ]
  refine wpAnyZ_take [] 3 (.pointer (some ⟨g, 1, none⟩)) rfl (by kernel_rfl) (fun _ _ _ h => h) hbd rfl (by intro wz hz; obtain ⟨z0, z1, z2, z3, z4, z5, z6, z7, z8, z9, z10, z11, z12⟩ := BxS.cell13 hz; go_simp) ?_
  try simp only [List.getElem_toArray, List.getElem_cons_succ, List.getElem_cons_zero, Act.put, List.setIfInBounds_toArray, List.set_cons_zero, List.set_cons_succ]
  refine wpAnyZ_take [] 4 (.int .i64 d.nx) rfl (by kernel_rfl) (fun _ _ _ h => h) hbd rfl (by intro wz hz; obtain ⟨z0, z1, z2, z3, z4, z5, z6, z7, z8, z9, z10, z11, z12⟩ := BxS.cell13 hz; go_simp) ?_
  try simp only [List.getElem_toArray, List.getElem_cons_succ, List.getElem_cons_zero, Act.put, List.setIfInBounds_toArray, List.set_cons_zero, List.set_cons_succ]
  refine wpAnyZ_take [] 5 (.pointer (some ⟨g, 0, none⟩)) rfl (by kernel_rfl) (fun _ _ _ h => h) hbd rfl (by intro wz hz; obtain ⟨z0, z1, z2, z3, z4, z5, z6, z7, z8, z9, z10, z11, z12⟩ := BxS.cell13 hz; go_simp) ?_
  try simp only [List.getElem_toArray, List.getElem_cons_succ, List.getElem_cons_zero, Act.put, List.setIfInBounds_toArray, List.set_cons_zero, List.set_cons_succ]
  refine wpAnyZ_take [] 6 (.pointer (some ⟨g, 0, none⟩)) rfl (by kernel_rfl) (fun _ _ _ h => h) hbd rfl (by intro wz hz; obtain ⟨z0, z1, z2, z3, z4, z5, z6, z7, z8, z9, z10, z11, z12⟩ := BxS.cell13 hz; go_simp) ?_
  try simp only [List.getElem_toArray, List.getElem_cons_succ, List.getElem_cons_zero, Act.put, List.setIfInBounds_toArray, List.set_cons_zero, List.set_cons_succ]
  refine wpAnyZ_take [] 7 (.pointer (some ⟨g, 0, none⟩)) rfl (by kernel_rfl) (fun _ _ _ h => h) hbd rfl (by intro wz hz; obtain ⟨z0, z1, z2, z3, z4, z5, z6, z7, z8, z9, z10, z11, z12⟩ := BxS.cell13 hz; go_simp) ?_
  try simp only [List.getElem_toArray, List.getElem_cons_succ, List.getElem_cons_zero, Act.put, List.setIfInBounds_toArray, List.set_cons_zero, List.set_cons_succ]
  refine wpAnyZ_take [] 8 (.pointer (some ⟨g, 3, none⟩)) rfl (by kernel_rfl) (fun _ _ _ h => h) hbd rfl (by intro wz hz; obtain ⟨z0, z1, z2, z3, z4, z5, z6, z7, z8, z9, z10, z11, z12⟩ := BxS.cell13 hz; go_simp) ?_
  try simp only [List.getElem_toArray, List.getElem_cons_succ, List.getElem_cons_zero, Act.put, List.setIfInBounds_toArray, List.set_cons_zero, List.set_cons_succ]
  refine wpAnyZ_take [] 9 (.slice Z.sa Z.sn Z.sc) rfl (by kernel_rfl) (fun _ _ _ h => h) hbd rfl (by intro wz hz; obtain ⟨z0, z1, z2, z3, z4, z5, z6, z7, z8, z9, z10, z11, z12⟩ := BxS.cell13 hz; go_simp) ?_
  try simp only [List.getElem_toArray, List.getElem_cons_succ, List.getElem_cons_zero, Act.put, List.setIfInBounds_toArray, List.set_cons_zero, List.set_cons_succ]
  refine wpAnyZ_take [] 10 (.int .i64 (Z.sn : Int)) rfl (by kernel_rfl) (fun _ _ _ h => h) hbd rfl (by intro wz hz; obtain ⟨z0, z1, z2, z3, z4, z5, z6, z7, z8, z9, z10, z11, z12⟩ := BxS.cell13 hz; go_simp) ?_
  try simp only [List.getElem_toArray, List.getElem_cons_succ, List.getElem_cons_zero, Act.put, List.setIfInBounds_toArray, List.set_cons_zero, List.set_cons_succ]
  refine wpAnyZ_take [] 11 (.int .i64 (d.nx - (Z.sn : Int))) rfl (by kernel_rfl) (fun _ _ _ h => h) hbd rfl (by intro wz hz; obtain ⟨z0, z1, z2, z3, z4, z5, z6, z7, z8, z9, z10, z11, z12⟩ := BxS.cell13 hz; go_simp) ?_
  try simp only [List.getElem_toArray, List.getElem_cons_succ, List.getElem_cons_zero, Act.put, List.setIfInBounds_toArray, List.set_cons_zero, List.set_cons_succ]
  refine wpAnyZ_oneB 12 rfl (by kernel_rfl) (fun K hK => ?_)
  go_simp
  go_at_call 41
  refine (kR _ _).mono ?_
  rintro e w1 ⟨rfl, hw1⟩
  dsimp only
  have hw1 := hw1.symm
  subst hw1
  refine hK _ _ (fun _ => hbd) ?_
  try simp only [List.getElem_toArray, List.getElem_cons_succ, List.getElem_cons_zero, Act.put, List.setIfInBounds_toArray, List.set_cons_zero, List.set_cons_succ]
  refine wpAnyZ_take [] 13 (.int .i64 ((d.nx - (Z.sn : Int)) % 256)) rfl (by kernel_rfl) (fun _ _ _ h => h) hbd rfl (by intro wz hz; go_simp) ?_
  try simp only [List.getElem_toArray, List.getElem_cons_succ, List.getElem_cons_zero, Act.put, List.setIfInBounds_toArray, List.set_cons_zero, List.set_cons_succ]
  refine wpAnyZ_doneB (by kernel_rfl) ?_ _
  go_wp2
  go_ret
  exact ⟨rfl, grown_drew w none⟩

theorem AnsX.someK {e : TypeId} {w : World} {lo : Nat} {a : Option Addr} {n cap : Nat} {X : List Value} (h : AnsX e w lo a n cap X) (hn : 0 < n) : ∃ g, a = some ⟨g, 0, none⟩ ∧ lo ≤ g ∧ g < w.heap.size := by
  rcases h.cases with ⟨_, h0, _⟩ | h
  · omega
  · exact h
/-- the first of those that were sent are struck -/
theorem HW.cutS {lo : Nat} {w w1 w2 : World} {g : Nat} {d : Hd} {Z : Hx} {rs qs : List Rw} {ua : Option Addr} {un uc : Nat} {us : List Rw} {U : List (List Nat)} (h : HW lo w g d Z rs qs ua un uc us U) (gs m : Nat) (es : Z.sa = some ⟨gs, 0, none⟩) (hO : OwR w1 lo (some ⟨gs, 0, none⟩) (Z.sn - m) Z.sc (rs.drop m)) (u1 : w.grownBy w1 (some gs)) (bx : BxS w2 g 57 #[.int .i64 d.cr, .int .i64 d.nx, .int .i64 d.ah, .slice (some ⟨gs, 0, none⟩) (Z.sn - m) Z.sc, .slice Z.qa Z.qn Z.qc, .int .i64 d.ti, .int .i64 d.pa, .int .i64 d.tr, .int .i64 d.li, .int .i64 d.si, .int .i64 d.pu, .int .i64 d.hl, .slice ua un uc]) (u2 : w1.grownBy w2 (some g)) :
    HW lo w2 g ⟨d.cr, d.nx, d.ah, d.ti, d.pa, d.tr, d.li, d.si, d.pu, d.hl, d.S.drop m, d.Q⟩ ⟨some ⟨gs, 0, none⟩, Z.sn - m, Z.sc, Z.qa, Z.qn, Z.qc⟩ (rs.drop m) qs ua un uc us U := by
  have ofs : Ofr (.slice Z.sa Z.sn Z.sc) rs gs := .inl (by rw [es]; rfl)
  have nb : ¬ some g = some gs := box_ofrC h.o.s h.box gs ofs
  have sub : ∀ x, Ofr (.slice (some ⟨gs, 0, none⟩) (Z.sn - m) Z.sc) (rs.drop m) x → Ofr (.slice Z.sa Z.sn Z.sc) rs x := fun x hx => by
    rcases hx with hx | ⟨r, hr, hx⟩
    · exact .inl (by rw [es]; exact hx)
    · exact .inr ⟨r, List.mem_of_mem_drop hr, hx⟩
  have bx1 := h.box.keep u1 (fun e => nb e)
  have q1 := h.o.q.fz (fz_of2 u1) (fun x hx e => by have e := Option.some.inj e; subst e; exact h.o.ap _ ofs hx)
  have v1 := h.u.fz (fz_of2 u1) (fun x hx e => by have e := Option.some.inj e; subst e; exact h.ap _ hx (.inl ofs))
  have s1 : OwW w1 lo (some ⟨gs, 0, none⟩) (Z.sn - m) Z.sc (rs.drop m) (d.S.drop m) := ⟨hO, by rw [List.map_drop, h.o.s.d]⟩
  refine ⟨bx, h.gl, ⟨s1.fz (fz_of2 u2) (box_ofrC s1 bx1), q1.fz (fz_of2 u2) (box_ofrC q1 bx1), fun x hx => h.o.ap x (sub x hx)⟩, v1.fz (fz_of2 u2) (box_ofrC v1 bx1), fun x hx hb => h.ap x hx ?_⟩
  rcases hb with hb | hb
  · exact .inl (sub x hb)
  · exact .inr hb
/-- how many of those that are sent were let in -/
def stM (d : Hd) (N : Nat) : Nat := (((N : Int) - (d.nx - (d.S.length : Int))) % 256).toNat
/-- what settle makes of a hand -/
def seD (d : Hd) (m : Nat) (sh : Bool) : Hd :=
  if d.S.length < m then ⟨d.cr, d.nx, d.ah, d.ti, d.pa, d.tr, d.li, d.si, d.pu, 11, d.S, d.Q⟩
  else if 0 < m then (if sh = true then ⟨d.cr, d.nx, d.ah, 0, d.pa, 0, d.li, d.si, d.pu, 15, d.S.drop m, d.Q⟩ else ⟨d.cr, d.nx, d.ah, 0, d.pa, 0, d.li, d.si, d.pu, d.hl, d.S.drop m, d.Q⟩)
  else (if sh = true then ⟨d.cr, d.nx, d.ah, d.ti, d.pa, d.tr, d.li, d.si, d.pu, 15, d.S, d.Q⟩ else d)
set_option maxHeartbeats 64000000 in
theorem settle_any (lo : Nat) (w : World) (g : Nat) (d : Hd) (Z : Hx) (rs qs : List Rw) (ua : Option Addr) (un uc : Nat) (us : List Rw) (U : List (List Nat)) (h : HW lo w g d Z rs qs ua un uc us U) (N C : Nat) (sh wt ag : Bool) (hN : N < 256) (hnx : 0 ≤ d.nx ∧ d.nx ≤ 255) (hs : d.S.length ≤ 127) :
    Calls Try.prog 30 #[.pointer (some ⟨g, 0, none⟩), .agg #[.int .i64 0, .int .i64 (N : Int), .int .i64 0, .bool sh, .bool wt, .bool ag, .int .i64 (C : Int)]] w fun e w' => e = .returned (.tuple #[]) ∧ ∃ (Z' : Hx) (rs' : List Rw), HW lo w' g (seD d (stM d N) sh) Z' rs' qs ua un uc us U ∧ Fz (fun i => i = g ∨ (Value.slice Z.sa Z.sn Z.sc).ownBlock = some i) w w' := by
  have b0 := BxS.new w 28 #[.int .i64 0, .int .i64 (N : Int), .int .i64 0, .bool sh, .bool wt, .bool ag, .int .i64 (C : Int)]
  have g0 := World.grownBy_alloc w (.cells #[.int .i64 0, .int .i64 (N : Int), .int .i64 0, .bool sh, .bool wt, .bool ag, .int .i64 (C : Int)] 28) none
  generalize hw0 : w.alloc (.cells #[.int .i64 0, .int .i64 (N : Int), .int .i64 0, .bool sh, .bool wt, .bool ag, .int .i64 (C : Int)] 28) = w0 at b0 g0
  have hgw := h.box.lt
  have h0 := h.keep g0
  have kF := fun wz hz => first_any lo wz g d Z rs qs ua un uc us U hz hnx hs
  have kR := fun z wz => around_any z wz
  have hl := h.o.s.len
  obtain ⟨m, hm⟩ : ∃ m : Nat, stM d N = m := ⟨_, rfl⟩
  have hmv : ((N : Int) - (d.nx - (d.S.length : Int)) % 256) % 256 = (m : Int) := by unfold stM at hm; omega
  have hm256 : m < 256 := by omega
  have hx1 := hnx.1
  have hx2 := hnx.2
  generalize hy : (d.nx - (d.S.length : Int)) % 256 = y at hmv kF
  have hy0 : 0 ≤ y ∧ y < 256 := by omega
  have hwr : IntKind.i64.wrap ((N : Int) - y) = (N : Int) - y := wrap_in _ (by omega) (by omega)
  rw [hm]
  clear hm hy
  go_enter Try.func30, Try.ntmps30
  go_wp2
  have SS := grown_drew w0 none
  refine wp_regionL (fun wz => w0.grownBy wz none) [] #[false, false, false, false, false, false, false] rfl (by kernel_rfl) ?_
  refine wpAnyZ_take [] 0 (.pointer (some ⟨w.heap.size, 1, none⟩)) rfl (by kernel_rfl) (fun _ _ _ h => h) SS rfl (by intro wz hz; have zg := b0.keep hz (by simp); have z1 : wz.cell? ⟨w.heap.size, 1, none⟩ = some (.int .i64 (N : Int)) := zg.cell 1 (by show 1 < 7; decide); go_simp) ?_
  try simp only [List.getElem_toArray, List.getElem_cons_succ, List.getElem_cons_zero, Act.put, List.setIfInBounds_toArray, List.set_cons_zero, List.set_cons_succ]
  refine wpAnyZ_take [] 1 (.int .i64 (N : Int)) rfl (by kernel_rfl) (fun _ _ _ h => h) SS rfl (by intro wz hz; have zg := b0.keep hz (by simp); have z1 : wz.cell? ⟨w.heap.size, 1, none⟩ = some (.int .i64 (N : Int)) := zg.cell 1 (by show 1 < 7; decide); go_simp) ?_
  try simp only [List.getElem_toArray, List.getElem_cons_succ, List.getElem_cons_zero, Act.put, List.setIfInBounds_toArray, List.set_cons_zero, List.set_cons_succ]
  refine wpAnyZ_take [] 2 (.pointer (some ⟨g, 0, none⟩)) rfl (by kernel_rfl) (fun _ _ _ h => h) SS rfl (by intro wz hz; have zg := b0.keep hz (by simp); have z1 : wz.cell? ⟨w.heap.size, 1, none⟩ = some (.int .i64 (N : Int)) := zg.cell 1 (by show 1 < 7; decide); go_simp) ?_
  try simp only [List.getElem_toArray, List.getElem_cons_succ, List.getElem_cons_zero, Act.put, List.setIfInBounds_toArray, List.set_cons_zero, List.set_cons_succ]
  refine wpAnyZ_oneB 3 rfl (by kernel_rfl) (fun K hK => ?_)
  go_simp
  go_at_call 42
  refine (kF _ (h0.keep SS)).mono ?_
  rintro e w1 ⟨rfl, y1⟩
  dsimp only
  have SS := grown_trans SS y1
  refine hK _ _ (fun _ => SS) ?_
  try simp only [List.getElem_toArray, List.getElem_cons_succ, List.getElem_cons_zero, Act.put, List.setIfInBounds_toArray, List.set_cons_zero, List.set_cons_succ]
  refine wpAnyZ_take [] 4 (.int .i64 ((N : Int) - y)) rfl (by kernel_rfl) (fun _ _ _ h => h) SS rfl (by intro wz hz; go_simp) ?_
  try simp only [List.getElem_toArray, List.getElem_cons_succ, List.getElem_cons_zero, Act.put, List.setIfInBounds_toArray, List.set_cons_zero, List.set_cons_succ]
  refine wpAnyZ_oneB 5 rfl (by kernel_rfl) (fun K hK => ?_)
  go_simp
  go_at_call 41
  refine (kR _ _).mono ?_
  rintro e w2 ⟨rfl, hw2⟩
  dsimp only
  have hw2 := hw2.symm
  subst hw2
  rw [hmv]
  refine hK _ _ (fun _ => SS) ?_
  try simp only [List.getElem_toArray, List.getElem_cons_succ, List.getElem_cons_zero, Act.put, List.setIfInBounds_toArray, List.set_cons_zero, List.set_cons_succ]
  refine wpAnyZ_take [] 6 (.int .i64 (m : Int)) rfl (by kernel_rfl) (fun _ _ _ h => h) SS rfl (by intro wz hz; go_simp) ?_
  try simp only [List.getElem_toArray, List.getElem_cons_succ, List.getElem_cons_zero, Act.put, List.setIfInBounds_toArray, List.set_cons_zero, List.set_cons_succ]
  refine wpAnyZ_doneB (by kernel_rfl) ?_ _
  have hW := h0.keep SS
  have bg := b0.keep SS (by simp)
  have GG := grown_trans g0 SS
  generalize w1 = wv at *
  clear kF kR hmv hwr hy0 y1 SS h0 b0 g0
  obtain ⟨h0, h1, h2, h3, h4, h5, h6, h7, h8, h9, h10, h11, h12⟩ := hW.box.cell13
  obtain ⟨q0, q1, q2, q3, q4, q5, q6⟩ := bg.cell7
  have F0 : Fz (fun i => i = g ∨ (Value.slice Z.sa Z.sn Z.sc).ownBlock = some i) w wv := (Fz.refl _ w).step GG (fun k e _ => by cases e)
  have hgl := h.gl
  have s0 : True := trivial
  by_cases hA : d.S.length < m
  · have eD : seD d m sh = ⟨d.cr, d.nx, d.ah, d.ti, d.pa, d.tr, d.li, d.si, d.pu, 11, d.S, d.Q⟩ := if_pos hA
    have hA' : (Z.sn : Int) < (m : Int) := by omega
    have eD : Hid _ := eD
    go_wp2_with (have _t := s0; clear s0; refine wpList_stC _ rfl _ _ _ rfl g 11 57 _ #[.int .i64 d.cr, .int .i64 d.nx, .int .i64 d.ah, .slice Z.sa Z.sn Z.sc, .slice Z.qa Z.qn Z.qc, .int .i64 d.ti, .int .i64 d.pa, .int .i64 d.tr, .int .i64 d.li, .int .i64 d.si, .int .i64 d.pu, .int .i64 11, .slice ua un uc] (.int .i64 11) rfl rfl hW.box (stc_err _ _ _) (by show 11 < 13; decide) rfl ?_; intro x1 b1 u1; skip)
    refine bodyPost_ret (results_none rfl _ _ _) rfl ?_
    try rw [eD.out]
    first | exact ⟨rfl, Z, rs, hW.setI ⟨d.cr, d.nx, d.ah, d.ti, d.pa, d.tr, d.li, d.si, d.pu, 11, d.S, d.Q⟩ rfl rfl b1 u1, F0.step u1 (fun k e _ => by cases e; exact .inl rfl)⟩ | exact ⟨rfl, ⟨Z, rs, hW.setI ⟨d.cr, d.nx, d.ah, d.ti, d.pa, d.tr, d.li, d.si, d.pu, 11, d.S, d.Q⟩ rfl rfl b1 u1⟩, F0.step u1 (fun k e _ => by cases e; exact .inl rfl)⟩
  · have hA' : ¬ (Z.sn : Int) < (m : Int) := by omega
    by_cases hm0 : 0 < m
    · have hm0' : (0 : Int) < (m : Int) := by omega
      have HEv : Hid (seD d m sh = (if sh = true then ⟨d.cr, d.nx, d.ah, 0, d.pa, 0, d.li, d.si, d.pu, 15, d.S.drop m, d.Q⟩ else ⟨d.cr, d.nx, d.ah, 0, d.pa, 0, d.li, d.si, d.pu, d.hl, d.S.drop m, d.Q⟩)) := by show _ = _; unfold seD; rw [if_neg hA, if_pos hm0]
      obtain ⟨gs, es, _, _⟩ := hW.o.s.o.x.someK (by omega)
      have hO := hW.o.s.o
      rw [es] at hO
      have kD := deleteR_any gs Z.sn Z.sc lo m rs wv hO (by omega) (by omega) (by omega)
      have ofs : Ofr (.slice Z.sa Z.sn Z.sc) rs gs := .inl (by rw [es]; rfl)
      have nb : ¬ some g = some gs := box_ofrC hW.o.s hW.box gs ofs
      have HEs : Hid (Z.sa = some ⟨gs, 0, none⟩) := es
      have hBb := hW.box
      rw [es] at hBb h3
      clear es
      have ngs : some w.heap.size ≠ some gs := fun e => ofr_box hW.o.s.o bg (by decide) (by decide) ofs (Option.some.inj e).symm
      have ngg : some w.heap.size ≠ some g := fun e => by have e := Option.some.inj e; omega
      have hgso : Hid ((Value.slice Z.sa Z.sn Z.sc).ownBlock = some gs) := by show _ = _; rw [HEs.out]; rfl
      cases sh
      · go_wp2_with (first
          | (go_at_call 43; have _t := s0; clear s0; refine kD.mono ?_; rintro e x1 ⟨rfl, hO1, u1⟩; have b1 := hBb.keep u1 (fun e => nb e); clear h0 h1 h2 h3 h4 h5 h6 h7 h8 h9 h10 h11 h12; have s1 : True := trivial)
          | (have _t := s1; clear s1; refine wpList_stC _ rfl _ _ _ rfl g 3 57 _ #[.int .i64 d.cr, .int .i64 d.nx, .int .i64 d.ah, .slice (some ⟨gs, 0, none⟩) (Z.sn - m) Z.sc, .slice Z.qa Z.qn Z.qc, .int .i64 d.ti, .int .i64 d.pa, .int .i64 d.tr, .int .i64 d.li, .int .i64 d.si, .int .i64 d.pu, .int .i64 d.hl, .slice ua un uc] (.slice (some ⟨gs, 0, none⟩) (Z.sn - m) Z.sc) rfl rfl b1 (stc_rows _ _ _ _ _) (by show 3 < 13; decide) rfl ?_; intro x2 b2 u2; have hW2 := hW.cutS gs m HEs.out hO1 u1 b2 u2; have s2 : True := trivial)
          | (have _t := s2; clear s2; refine wpList_stC _ rfl _ _ _ rfl g 5 57 _ #[.int .i64 d.cr, .int .i64 d.nx, .int .i64 d.ah, .slice (some ⟨gs, 0, none⟩) (Z.sn - m) Z.sc, .slice Z.qa Z.qn Z.qc, .int .i64 0, .int .i64 d.pa, .int .i64 d.tr, .int .i64 d.li, .int .i64 d.si, .int .i64 d.pu, .int .i64 d.hl, .slice ua un uc] (.int .i64 0) rfl rfl b2 (stc_int _ _ _) (by show 5 < 13; decide) rfl ?_; intro x3 b3 u3; have hW3 := hW2.setI ⟨d.cr, d.nx, d.ah, 0, d.pa, d.tr, d.li, d.si, d.pu, d.hl, d.S.drop m, d.Q⟩ rfl rfl b3 u3; have s3 : True := trivial)
          | (have _t := s3; clear s3; refine wpList_stC _ rfl _ _ _ rfl g 7 57 _ #[.int .i64 d.cr, .int .i64 d.nx, .int .i64 d.ah, .slice (some ⟨gs, 0, none⟩) (Z.sn - m) Z.sc, .slice Z.qa Z.qn Z.qc, .int .i64 0, .int .i64 d.pa, .int .i64 0, .int .i64 d.li, .int .i64 d.si, .int .i64 d.pu, .int .i64 d.hl, .slice ua un uc] (.int .i64 0) rfl rfl b3 (stc_int _ _ _) (by show 7 < 13; decide) rfl ?_; intro x4 b4 u4; have hW4 := hW3.setI ⟨d.cr, d.nx, d.ah, 0, d.pa, 0, d.li, d.si, d.pu, d.hl, d.S.drop m, d.Q⟩ rfl rfl b4 u4; have F4 := (((F0.step u1 (fun k e _ => by cases e; exact .inr hgso.out)).step u2 (fun k e _ => by cases e; exact .inl rfl)).step u3 (fun k e _ => by cases e; exact .inl rfl)).step u4 (fun k e _ => by cases e; exact .inl rfl); clear q0 q1 q2 q3 q4 q5 q6; have bg4 := (((bg.keep u1 ngs).keep u2 ngg).keep u3 ngg).keep u4 ngg; obtain ⟨q0, q1, q2, q3, q4, q5, q6⟩ := bg4.cell7; have s4 : True := trivial))
        go_end0
        try rw [HEv.out]
        first | exact ⟨rfl, _, _, hW4, F4⟩ | exact ⟨rfl, ⟨_, _, hW4⟩, F4⟩
      · go_wp2_with (first
          | (go_at_call 43; have _t := s0; clear s0; refine kD.mono ?_; rintro e x1 ⟨rfl, hO1, u1⟩; have b1 := hBb.keep u1 (fun e => nb e); clear h0 h1 h2 h3 h4 h5 h6 h7 h8 h9 h10 h11 h12; have s1 : True := trivial)
          | (have _t := s1; clear s1; refine wpList_stC _ rfl _ _ _ rfl g 3 57 _ #[.int .i64 d.cr, .int .i64 d.nx, .int .i64 d.ah, .slice (some ⟨gs, 0, none⟩) (Z.sn - m) Z.sc, .slice Z.qa Z.qn Z.qc, .int .i64 d.ti, .int .i64 d.pa, .int .i64 d.tr, .int .i64 d.li, .int .i64 d.si, .int .i64 d.pu, .int .i64 d.hl, .slice ua un uc] (.slice (some ⟨gs, 0, none⟩) (Z.sn - m) Z.sc) rfl rfl b1 (stc_rows _ _ _ _ _) (by show 3 < 13; decide) rfl ?_; intro x2 b2 u2; have hW2 := hW.cutS gs m HEs.out hO1 u1 b2 u2; have s2 : True := trivial)
          | (have _t := s2; clear s2; refine wpList_stC _ rfl _ _ _ rfl g 5 57 _ #[.int .i64 d.cr, .int .i64 d.nx, .int .i64 d.ah, .slice (some ⟨gs, 0, none⟩) (Z.sn - m) Z.sc, .slice Z.qa Z.qn Z.qc, .int .i64 0, .int .i64 d.pa, .int .i64 d.tr, .int .i64 d.li, .int .i64 d.si, .int .i64 d.pu, .int .i64 d.hl, .slice ua un uc] (.int .i64 0) rfl rfl b2 (stc_int _ _ _) (by show 5 < 13; decide) rfl ?_; intro x3 b3 u3; have hW3 := hW2.setI ⟨d.cr, d.nx, d.ah, 0, d.pa, d.tr, d.li, d.si, d.pu, d.hl, d.S.drop m, d.Q⟩ rfl rfl b3 u3; have s3 : True := trivial)
          | (have _t := s3; clear s3; refine wpList_stC _ rfl _ _ _ rfl g 7 57 _ #[.int .i64 d.cr, .int .i64 d.nx, .int .i64 d.ah, .slice (some ⟨gs, 0, none⟩) (Z.sn - m) Z.sc, .slice Z.qa Z.qn Z.qc, .int .i64 0, .int .i64 d.pa, .int .i64 0, .int .i64 d.li, .int .i64 d.si, .int .i64 d.pu, .int .i64 d.hl, .slice ua un uc] (.int .i64 0) rfl rfl b3 (stc_int _ _ _) (by show 7 < 13; decide) rfl ?_; intro x4 b4 u4; have hW4 := hW3.setI ⟨d.cr, d.nx, d.ah, 0, d.pa, 0, d.li, d.si, d.pu, d.hl, d.S.drop m, d.Q⟩ rfl rfl b4 u4; have F4 := (((F0.step u1 (fun k e _ => by cases e; exact .inr hgso.out)).step u2 (fun k e _ => by cases e; exact .inl rfl)).step u3 (fun k e _ => by cases e; exact .inl rfl)).step u4 (fun k e _ => by cases e; exact .inl rfl); clear q0 q1 q2 q3 q4 q5 q6; have bg4 := (((bg.keep u1 ngs).keep u2 ngg).keep u3 ngg).keep u4 ngg; obtain ⟨q0, q1, q2, q3, q4, q5, q6⟩ := bg4.cell7; have s4 : True := trivial)
          | (have _t := s4; clear s4; refine wpList_stC _ rfl _ _ _ rfl g 11 57 _ #[.int .i64 d.cr, .int .i64 d.nx, .int .i64 d.ah, .slice (some ⟨gs, 0, none⟩) (Z.sn - m) Z.sc, .slice Z.qa Z.qn Z.qc, .int .i64 0, .int .i64 d.pa, .int .i64 0, .int .i64 d.li, .int .i64 d.si, .int .i64 d.pu, .int .i64 15, .slice ua un uc] (.int .i64 15) rfl rfl b4 (stc_err _ _ _) (by show 11 < 13; decide) rfl ?_; intro x5 b5 u5; skip))
        go_end0
        try rw [HEv.out]
        first | exact ⟨rfl, _, _, hW4.setI ⟨d.cr, d.nx, d.ah, 0, d.pa, 0, d.li, d.si, d.pu, 15, d.S.drop m, d.Q⟩ rfl rfl b5 u5, F4.step u5 (fun k e _ => by cases e; exact .inl rfl)⟩ | exact ⟨rfl, ⟨_, _, hW4.setI ⟨d.cr, d.nx, d.ah, 0, d.pa, 0, d.li, d.si, d.pu, 15, d.S.drop m, d.Q⟩ rfl rfl b5 u5⟩, F4.step u5 (fun k e _ => by cases e; exact .inl rfl)⟩
    · have hm0' : ¬ (0 : Int) < (m : Int) := by omega
      have HEv : Hid (seD d m sh = (if sh = true then ⟨d.cr, d.nx, d.ah, d.ti, d.pa, d.tr, d.li, d.si, d.pu, 15, d.S, d.Q⟩ else d)) := by show _ = _; unfold seD; rw [if_neg hA, if_neg hm0]
      cases sh
      · go_wp2
        go_end0
        try rw [HEv.out]
        first | exact ⟨rfl, Z, rs, hW, F0⟩ | exact ⟨rfl, ⟨Z, rs, hW⟩, F0⟩
      · go_wp2_with (have _t := s0; clear s0; refine wpList_stC _ rfl _ _ _ rfl g 11 57 _ #[.int .i64 d.cr, .int .i64 d.nx, .int .i64 d.ah, .slice Z.sa Z.sn Z.sc, .slice Z.qa Z.qn Z.qc, .int .i64 d.ti, .int .i64 d.pa, .int .i64 d.tr, .int .i64 d.li, .int .i64 d.si, .int .i64 d.pu, .int .i64 15, .slice ua un uc] (.int .i64 15) rfl rfl hW.box (stc_err _ _ _) (by show 11 < 13; decide) rfl ?_; intro x1 b1 u1; skip)
        go_end0
        try rw [HEv.out]
        first | exact ⟨rfl, Z, rs, hW.setI ⟨d.cr, d.nx, d.ah, d.ti, d.pa, d.tr, d.li, d.si, d.pu, 15, d.S, d.Q⟩ rfl rfl b1 u1, F0.step u1 (fun k e _ => by cases e; exact .inl rfl)⟩ | exact ⟨rfl, ⟨Z, rs, hW.setI ⟨d.cr, d.nx, d.ah, d.ti, d.pa, d.tr, d.li, d.si, d.pu, 15, d.S, d.Q⟩ rfl rfl b1 u1⟩, F0.step u1 (fun k e _ => by cases e; exact .inl rfl)⟩

/-- the bytes of orders that go up, numbered from q on -/
def upL (cr : Nat) (q : Int) : List (List Nat) → List (List Nat)
  | [] => []
  | r :: R => orL cr false false (q % 256).toNat r :: upL cr (q + 1) R
theorem upL_len (cr : Nat) (q : Int) (R : List (List Nat)) : (upL cr q R).length = R.length := by
  induction R generalizing q with
  | nil => rfl
  | cons r R ih => simp [upL, ih]
theorem upL_add (cr : Nat) (q : Int) (R T : List (List Nat)) : upL cr q (R ++ T) = upL cr q R ++ upL cr (q + R.length) T := by
  induction R generalizing q with
  | nil => simp [upL]
  | cons r R ih =>
    simp only [List.cons_append, upL, ih]
    rw [show q + 1 + (R.length : Int) = q + ((r :: R).length : Int) by simp; omega]
theorem upL_mod (cr : Nat) (q : Int) (R : List (List Nat)) : upL cr (q % 256) R = upL cr q R := by
  induction R generalizing q with
  | nil => rfl
  | cons r R ih =>
    simp only [upL]
    rw [Int.emod_emod_of_dvd q (Int.dvd_refl 256), ← ih (q + 1), ← ih (q % 256 + 1), show (q % 256 + 1) % 256 = (q + 1) % 256 by omega]
theorem take_one (R : List (List Nat)) (k : Nat) (h : k < R.length) : R.take (k + 1) = R.take k ++ [R.getD k []] := by
  rw [List.take_add_one, List.getElem?_eq_getElem h, List.getD_eq_getElem?_getD, List.getElem?_eq_getElem h]; rfl
/-- is it to be sent again? -/
def saW (d : Hd) (wt ag : Bool) : Bool := ag && !wt && decide (d.si = d.pu)
/-- what sendAgain makes of a hand, and what goes up -/
def saD (d : Hd) (wt ag : Bool) : Hd :=
  if d.S.length = 0 then ⟨d.cr, d.nx, d.ah, 0, d.pa, d.tr, d.li, d.si, d.pu, d.hl, d.S, d.Q⟩
  else if (!saW d wt ag) = true ∧ d.ti + 1 < d.pa then ⟨d.cr, d.nx, d.ah, (d.ti + 1), d.pa, d.tr, d.li, d.si, d.pu, d.hl, d.S, d.Q⟩
  else if d.tr = d.li then ⟨d.cr, d.nx, d.ah, 0, d.pa, d.tr, d.li, 0, d.pu, 19, d.S, d.Q⟩
  else ⟨d.cr, d.nx, d.ah, 0, d.pa, (d.tr + 1), d.li, 0, d.pu, d.hl, d.S, d.Q⟩
def saU (d : Hd) (wt ag : Bool) : List (List Nat) :=
  if d.S.length = 0 then []
  else if (!saW d wt ag) = true ∧ d.ti + 1 < d.pa then []
  else if d.tr = d.li then []
  else upL d.cr.toNat (d.nx - (d.S.length : Int)) d.S
set_option maxHeartbeats 64000000 in
theorem sendAgain_any (lo : Nat) (w : World) (g : Nat) (d : Hd) (Z : Hx) (rs qs : List Rw) (ua : Option Addr) (un uc : Nat) (us : List Rw) (U : List (List Nat)) (h : HW lo w g d Z rs qs ua un uc us U) (N C : Nat) (sh wt ag : Bool) (hcr : 0 ≤ d.cr ∧ d.cr ≤ 1023) (hnx : 0 ≤ d.nx ∧ d.nx ≤ 255) (hs : d.S.length ≤ 127) (hF : ∀ i, i < d.S.length → 1 ≤ (d.S.getD i []).length ∧ (d.S.getD i []).length ≤ 1017) (hti : 0 ≤ d.ti ∧ d.ti ≤ 100000) (htr : 0 ≤ d.tr ∧ d.tr ≤ 100000) (hun : un ≤ 500) :
    Calls Try.prog 31 #[.pointer (some ⟨g, 0, none⟩), .agg #[.int .i64 0, .int .i64 (N : Int), .int .i64 0, .bool sh, .bool wt, .bool ag, .int .i64 (C : Int)]] w fun e w' => e = .returned (.tuple #[]) ∧ ∃ (ua' : Option Addr) (un' uc' : Nat) (us' : List Rw), HW lo w' g (saD d wt ag) Z rs qs ua' un' uc' us' (U ++ saU d wt ag) ∧ Fz (fun i => i = g ∨ (Value.slice ua un uc).ownBlock = some i) w w' := by
  have b0 := BxS.new w 28 #[.int .i64 0, .int .i64 (N : Int), .int .i64 0, .bool sh, .bool wt, .bool ag, .int .i64 (C : Int)]
  have g0 := World.grownBy_alloc w (.cells #[.int .i64 0, .int .i64 (N : Int), .int .i64 0, .bool sh, .bool wt, .bool ag, .int .i64 (C : Int)] 28) none
  generalize hw0 : w.alloc (.cells #[.int .i64 0, .int .i64 (N : Int), .int .i64 0, .bool sh, .bool wt, .bool ag, .int .i64 (C : Int)] 28) = w0 at b0 g0
  have hgw := h.box.lt
  have hW := h.keep g0
  have hl := h.o.s.len
  have F0 : Fz (fun i => i = g ∨ (Value.slice ua un uc).ownBlock = some i) w w0 := (Fz.refl _ w).step g0 (fun k e _ => by cases e)
  have hgl := h.gl
  have hti1 := hti.1
  have hti2 := hti.2
  have htr1 := htr.1
  have htr2 := htr.2
  obtain ⟨h0, h1, h2, h3, h4, h5, h6, h7, h8, h9, h10, h11, h12⟩ := hW.box.cell13
  obtain ⟨q0, q1, q2, q3, q4, q5, q6⟩ := b0.cell7
  have s0 : True := trivial
  by_cases hE : d.S.length = 0
  · have eD : Hid (saD d wt ag = ⟨d.cr, d.nx, d.ah, 0, d.pa, d.tr, d.li, d.si, d.pu, d.hl, d.S, d.Q⟩) := if_pos hE
    have eU : Hid (saU d wt ag = []) := if_pos hE
    have hz : ((Z.sn : Int) == 0) = true := by simp; omega
    go_enter Try.func31, Try.ntmps31
    go_wp2_with (have _t := s0; clear s0; refine wpList_stC _ rfl _ _ _ rfl g 5 57 _ #[.int .i64 d.cr, .int .i64 d.nx, .int .i64 d.ah, .slice Z.sa Z.sn Z.sc, .slice Z.qa Z.qn Z.qc, .int .i64 0, .int .i64 d.pa, .int .i64 d.tr, .int .i64 d.li, .int .i64 d.si, .int .i64 d.pu, .int .i64 d.hl, .slice ua un uc] (.int .i64 0) rfl rfl hW.box (stc_int _ _ _) (by show 5 < 13; decide) rfl ?_; intro x1 b1 u1; skip)
    refine bodyPost_ret (results_none rfl _ _ _) rfl ?_
    rw [eD.out, eU.out, List.append_nil]
    first | exact ⟨rfl, ua, un, uc, us, hW.setI ⟨d.cr, d.nx, d.ah, 0, d.pa, d.tr, d.li, d.si, d.pu, d.hl, d.S, d.Q⟩ rfl rfl b1 u1, F0.step u1 (fun k e _ => by cases e; exact .inl rfl)⟩ | exact ⟨rfl, ⟨ua, un, uc, us, hW.setI ⟨d.cr, d.nx, d.ah, 0, d.pa, d.tr, d.li, d.si, d.pu, d.hl, d.S, d.Q⟩ rfl rfl b1 u1⟩, F0.step u1 (fun k e _ => by cases e; exact .inl rfl)⟩
  · have hz : ((Z.sn : Int) == 0) = false := by simp; omega
    obtain ⟨wi, hwi⟩ : ∃ wi, saW d wt ag = wi := ⟨_, rfl⟩
    have HWI : Hid (saW d wt ag = wi) := hwi
    clear hwi
    go_enter Try.func31, Try.ntmps31
    let pq : Exit → Act → World → Prop := bodyPost Try.prog Try.f31 (fun _ _ => True)
    go_upto_region 3 with fail
    go_cut [4] from 19 to 38 (fun s4 wy => s4 = .bool wi ∧ w0.grownBy wy none)
    case first =>
      cases ag
      · have e : Hid (wi = false) := by show _ = _; rw [← HWI.out]; rfl
        go_quiet (fail)
        go_wp2
        go_meet
        exact ⟨by rw [e.out], grown_drewN _ _ _⟩
      · cases wt
        · by_cases hsp : d.si = d.pu
          · have e : Hid (wi = true) := by show _ = _; rw [← HWI.out]; unfold saW; rw [decide_eq_true hsp]; rfl
            have hsp' : (d.si == d.pu) = true := by rw [hsp]; simp
            clear hsp
            go_quiet (fail)
            go_wp2
            go_meet
            exact ⟨by rw [e.out], grown_drewN _ _ _⟩
          · have e : Hid (wi = false) := by show _ = _; rw [← HWI.out]; unfold saW; rw [decide_eq_false hsp]; rfl
            have hsp' : (d.si == d.pu) = false := beq_false_of_ne hsp
            go_quiet (fail)
            go_wp2
            go_meet
            exact ⟨by rw [e.out], grown_drewN _ _ _⟩
        · have e : Hid (wi = false) := by show _ = _; rw [← HWI.out]; rfl
          go_quiet (fail)
          go_wp2
          go_meet
          exact ⟨by rw [e.out], grown_drewN _ _ _⟩
    case rest =>
    obtain ⟨e4, y1⟩ := hcut
    subst e4
    generalize wc = w1 at *
    apply_assumption
    have hW1 := hW.keep y1
    have F1 := F0.step y1 (fun k e _ => by cases e)
    clear h0 h1 h2 h3 h4 h5 h6 h7 h8 h9 h10 h11 h12
    clear q0 q1 q2 q3 q4 q5 q6
    obtain ⟨h0, h1, h2, h3, h4, h5, h6, h7, h8, h9, h10, h11, h12⟩ := hW1.box.cell13
    have hwt : IntKind.i64.wrap (d.ti + 1) = d.ti + 1 := wrap_in _ (by omega) (by omega)
    obtain ⟨bb, hbb⟩ : ∃ bb, (!wi && decide (d.ti + 1 < d.pa)) = bb := ⟨_, rfl⟩
    have HBB : Hid ((!wi && decide (d.ti + 1 < d.pa)) = bb) := hbb
    clear hbb
    go_upto_region 4 with fail
    go_cut [54] from 39 to 53 (fun s4 wy => s4 = .bool bb ∧ w1.grownBy wy none)
    case first =>
      cases wi
      · by_cases hlt : d.ti + 1 < d.pa
        · have e : Hid (bb = true) := by show _ = _; rw [← HBB.out, decide_eq_true hlt]; rfl
          go_quiet (fail)
          go_wp2
          go_meet
          exact ⟨by rw [e.out], grown_drewN _ _ _⟩
        · have e : Hid (bb = false) := by show _ = _; rw [← HBB.out, decide_eq_false hlt]; rfl
          go_quiet (fail)
          go_wp2
          go_meet
          exact ⟨by rw [e.out], grown_drewN _ _ _⟩
      · have e : Hid (bb = false) := by show _ = _; rw [← HBB.out]; rfl
        go_quiet (fail)
        go_wp2
        go_meet
        exact ⟨by rw [e.out], grown_drewN _ _ _⟩
    case rest =>
    obtain ⟨e4, y2⟩ := hcut
    subst e4
    generalize wc = w2 at *
    apply_assumption
    have hW2 := hW1.keep y2
    have F2 := F1.step y2 (fun k e _ => by cases e)
    clear h0 h1 h2 h3 h4 h5 h6 h7 h8 h9 h10 h11 h12
    obtain ⟨h0, h1, h2, h3, h4, h5, h6, h7, h8, h9, h10, h11, h12⟩ := hW2.box.cell13
    have s1 : True := trivial
    cases bb
    · have HN : Hid (¬ ((!saW d wt ag) = true ∧ d.ti + 1 < d.pa)) := fun hh => by
        have := HBB.out
        rw [← HWI.out, hh.1, decide_eq_true hh.2] at this
        cases this
      by_cases htl : d.tr = d.li
      · have eD : Hid (saD d wt ag = ⟨d.cr, d.nx, d.ah, 0, d.pa, d.tr, d.li, 0, d.pu, 19, d.S, d.Q⟩) := by show _ = _; unfold saD; rw [if_neg hE, if_neg HN.out, if_pos htl]
        have eU : Hid (saU d wt ag = []) := by show _ = _; unfold saU; rw [if_neg hE, if_neg HN.out, if_pos htl]
        have htl' : (d.tr == d.li) = true := by rw [htl]; simp
        clear htl
        go_wp2_with (first
          | (have _t := s1; clear s1; refine wpList_stC _ rfl _ _ _ rfl g 5 57 _ #[.int .i64 d.cr, .int .i64 d.nx, .int .i64 d.ah, .slice Z.sa Z.sn Z.sc, .slice Z.qa Z.qn Z.qc, .int .i64 0, .int .i64 d.pa, .int .i64 d.tr, .int .i64 d.li, .int .i64 d.si, .int .i64 d.pu, .int .i64 d.hl, .slice ua un uc] (.int .i64 0) rfl rfl hW2.box (stc_int _ _ _) (by show 5 < 13; decide) rfl ?_; intro x3 b3 u3; have s2 : True := trivial)
          | (have _t := s2; clear s2; refine wpList_stC _ rfl _ _ _ rfl g 9 57 _ #[.int .i64 d.cr, .int .i64 d.nx, .int .i64 d.ah, .slice Z.sa Z.sn Z.sc, .slice Z.qa Z.qn Z.qc, .int .i64 0, .int .i64 d.pa, .int .i64 d.tr, .int .i64 d.li, .int .i64 0, .int .i64 d.pu, .int .i64 d.hl, .slice ua un uc] (.int .i64 0) rfl rfl b3 (stc_int _ _ _) (by show 9 < 13; decide) rfl ?_; intro x4 b4 u4; clear h0 h1 h2 h3 h4 h5 h6 h7 h8 h9 h10 h11 h12; obtain ⟨h0, h1, h2, h3, h4, h5, h6, h7, h8, h9, h10, h11, h12⟩ := b4.cell13; have s3 : True := trivial))
        have hW4 := (hW2.setI ⟨d.cr, d.nx, d.ah, 0, d.pa, d.tr, d.li, d.si, d.pu, d.hl, d.S, d.Q⟩ rfl rfl b3 u3).setI ⟨d.cr, d.nx, d.ah, 0, d.pa, d.tr, d.li, 0, d.pu, d.hl, d.S, d.Q⟩ rfl rfl b4 u4
        have F4 := (F2.step u3 (fun k e _ => by cases e; exact .inl rfl)).step u4 (fun k e _ => by cases e; exact .inl rfl)
        go_quiet (fail)
        have y5 := grown_drewN x4 nq none
        have b5 := b4.keep y5 (by simp)
        go_wp2_with (have _t := s3; clear s3; refine wpList_stC _ rfl _ _ _ rfl g 11 57 _ #[.int .i64 d.cr, .int .i64 d.nx, .int .i64 d.ah, .slice Z.sa Z.sn Z.sc, .slice Z.qa Z.qn Z.qc, .int .i64 0, .int .i64 d.pa, .int .i64 d.tr, .int .i64 d.li, .int .i64 0, .int .i64 d.pu, .int .i64 19, .slice ua un uc] (.int .i64 19) rfl rfl b5 (stc_err _ _ _) (by show 11 < 13; decide) rfl ?_; intro x6 b6 u6; skip)
        refine bodyPost_ret (results_none rfl _ _ _) rfl ?_
        rw [eD.out, eU.out, List.append_nil]
        have hfin := (hW4.keep y5).setI ⟨d.cr, d.nx, d.ah, 0, d.pa, d.tr, d.li, 0, d.pu, 19, d.S, d.Q⟩ rfl rfl b6 u6
        have F6 := (F4.step y5 (fun k e _ => by cases e)).step u6 (fun k e _ => by cases e; exact .inl rfl)
        first | exact ⟨rfl, ua, un, uc, us, hfin, F6⟩ | exact ⟨rfl, ⟨ua, un, uc, us, hfin⟩, F6⟩
      · have eD : Hid (saD d wt ag = ⟨d.cr, d.nx, d.ah, 0, d.pa, (d.tr + 1), d.li, 0, d.pu, d.hl, d.S, d.Q⟩) := by show _ = _; unfold saD; rw [if_neg hE, if_neg HN.out, if_neg htl]
        have eU : Hid (saU d wt ag = upL d.cr.toNat (d.nx - (d.S.length : Int)) d.S) := by show _ = _; unfold saU; rw [if_neg hE, if_neg HN.out, if_neg htl]
        have htl' : (d.tr == d.li) = false := beq_false_of_ne htl
        have hwr : IntKind.i64.wrap (d.tr + 1) = d.tr + 1 := wrap_in _ (by omega) (by omega)
        go_wp2_with (first
          | (have _t := s1; clear s1; refine wpList_stC _ rfl _ _ _ rfl g 5 57 _ #[.int .i64 d.cr, .int .i64 d.nx, .int .i64 d.ah, .slice Z.sa Z.sn Z.sc, .slice Z.qa Z.qn Z.qc, .int .i64 0, .int .i64 d.pa, .int .i64 d.tr, .int .i64 d.li, .int .i64 d.si, .int .i64 d.pu, .int .i64 d.hl, .slice ua un uc] (.int .i64 0) rfl rfl hW2.box (stc_int _ _ _) (by show 5 < 13; decide) rfl ?_; intro x3 b3 u3; have s2 : True := trivial)
          | (have _t := s2; clear s2; refine wpList_stC _ rfl _ _ _ rfl g 9 57 _ #[.int .i64 d.cr, .int .i64 d.nx, .int .i64 d.ah, .slice Z.sa Z.sn Z.sc, .slice Z.qa Z.qn Z.qc, .int .i64 0, .int .i64 d.pa, .int .i64 d.tr, .int .i64 d.li, .int .i64 0, .int .i64 d.pu, .int .i64 d.hl, .slice ua un uc] (.int .i64 0) rfl rfl b3 (stc_int _ _ _) (by show 9 < 13; decide) rfl ?_; intro x4 b4 u4; clear h0 h1 h2 h3 h4 h5 h6 h7 h8 h9 h10 h11 h12; obtain ⟨h0, h1, h2, h3, h4, h5, h6, h7, h8, h9, h10, h11, h12⟩ := b4.cell13; have s3 : True := trivial))
        have hW4 := (hW2.setI ⟨d.cr, d.nx, d.ah, 0, d.pa, d.tr, d.li, d.si, d.pu, d.hl, d.S, d.Q⟩ rfl rfl b3 u3).setI ⟨d.cr, d.nx, d.ah, 0, d.pa, d.tr, d.li, 0, d.pu, d.hl, d.S, d.Q⟩ rfl rfl b4 u4
        have F4 := (F2.step u3 (fun k e _ => by cases e; exact .inl rfl)).step u4 (fun k e _ => by cases e; exact .inl rfl)
        go_quiet (fail)
        have y5 := grown_drewN x4 nq none
        have hW5 := hW4.keep y5
        have b5 := b4.keep y5 (by simp)
        have F5 := F4.step y5 (fun k e _ => by cases e)
        generalize x4.drewN nq = x5 at *
        clear h0 h1 h2 h3 h4 h5 h6 h7 h8 h9 h10 h11 h12
        obtain ⟨h0, h1, h2, h3, h4, h5, h6, h7, h8, h9, h10, h11, h12⟩ := b5.cell13
        have kF := fun wz hz => first_any lo wz g ⟨d.cr, d.nx, d.ah, 0, d.pa, (d.tr + 1), d.li, 0, d.pu, d.hl, d.S, d.Q⟩ Z rs qs ua un uc us U hz hnx hs
        dsimp only at kF
        generalize hf : (d.nx - (d.S.length : Int)) % 256 = f at kF
        have HF : Hid ((d.nx - (d.S.length : Int)) % 256 = f) := hf
        have hf0 : 0 ≤ f ∧ f < 256 := by omega
        clear hf
        go_wp2_with (first
          | (have _t := s3; clear s3; refine wpList_stC _ rfl _ _ _ rfl g 7 57 _ #[.int .i64 d.cr, .int .i64 d.nx, .int .i64 d.ah, .slice Z.sa Z.sn Z.sc, .slice Z.qa Z.qn Z.qc, .int .i64 0, .int .i64 d.pa, .int .i64 (d.tr + 1), .int .i64 d.li, .int .i64 0, .int .i64 d.pu, .int .i64 d.hl, .slice ua un uc] (.int .i64 (d.tr + 1)) rfl rfl b5 (stc_int _ _ _) (by show 7 < 13; decide) rfl ?_; intro x6 b6 u6; have hW6 := hW5.setI ⟨d.cr, d.nx, d.ah, 0, d.pa, (d.tr + 1), d.li, 0, d.pu, d.hl, d.S, d.Q⟩ rfl rfl b6 u6; have s4 : True := trivial)
          | (go_at_call 42; have _t := s4; clear s4; refine (kF _ hW6).mono ?_; rintro e x7 ⟨rfl, y7⟩; have hW7 := hW6.keep y7; clear h0 h1 h2 h3 h4 h5 h6 h7 h8 h9 h10 h11 h12; obtain ⟨h0, h1, h2, h3, h4, h5, h6, h7, h8, h9, h10, h11, h12⟩ := hW7.box.cell13))
        have F7 := (F5.step u6 (fun k e _ => by cases e; exact .inl rfl)).step y7 (fun k e _ => by cases e)
        have kR := fun z wz => around_any z wz
        have hsm := hW7.o.s.o.x.max
        have hmm : maxLen ≤ 9223372036854775807 := by decide
        clear hW6 hW5 hW4 hW2 hW1 hW b3 b4 b5 b6 kF
        clear h0 h1 h2 h3 h4 h5 h6 h7 h8 h9 h10 h11 h12
        go_loopw [104] (fun iv wr => ∃ (k : Nat) (ua' : Option Addr) (uc' : Nat) (us' : List Rw), iv = .int .i64 k ∧ k ≤ Z.sn ∧ HW lo wr g ⟨d.cr, d.nx, d.ah, 0, d.pa, (d.tr + 1), d.li, 0, d.pu, d.hl, d.S, d.Q⟩ Z rs qs ua' (un + k) uc' us' (U ++ upL d.cr.toNat f (d.S.take k)) ∧ Fz (fun i => i = g ∨ (Value.slice ua un uc).ownBlock = some i) w wr ∧ (∀ x, (Value.slice ua' (un + k) uc').ownBlock = some x → (Value.slice ua un uc).ownBlock = some x ∨ w.heap.size ≤ x)) (fun iv _ => Z.sn - (intOf iv).toNat)
        case atStart => exact ⟨0, ua, uc, us, by go_num, Nat.zero_le _, by rw [show U ++ upL d.cr.toNat f (d.S.take 0) = U from by simp [upL]]; exact hW7, F7, fun x hx => .inl hx⟩
        case round =>
          obtain ⟨k, ua', uc', us', rfl, hk, hWr, Fr, nr⟩ := hrel
          by_cases hlt : k < Z.sn
          · have hlt' : (k : Int) < (Z.sn : Int) := by omega
            have hR := hWr.o.s.o.rdr
            obtain ⟨b, off, es, hbw, hc⟩ := hR.at' (by omega)
            have ck := hc k hlt
            have hd := hR.data k hlt
            have eDk : (rs.getD k kr0).D = d.S.getD k [] := by
              have e2 : rs.map Rw.D = d.S := hWr.o.s.d
              rw [← e2, getD_map_D rs k (by rw [hWr.o.s.o.len]; exact hlt)]
            have hFk := hF k (by omega)
            rw [← eDk, hd.len] at hFk
            have HDk : Hid ((rs.getD k kr0).D = d.S.getD k []) := eDk
            try dsimp only at ck hd
            obtain ⟨sq, hsq⟩ : ∃ sq : Nat, (f + (k : Int)) % 256 = (sq : Int) := ⟨((f + (k : Int)) % 256).toNat, by omega⟩
            have hsq2 : sq < 256 := by omega
            have HSQ : Hid ((f + (k : Int)) % 256 = (sq : Int)) := hsq
            have kS := send4b_any lo wr g ⟨d.cr, d.nx, d.ah, 0, d.pa, (d.tr + 1), d.li, 0, d.pu, d.hl, d.S, d.Q⟩ Z rs qs ua' (un + k) uc' us' (U ++ upL d.cr.toNat f (d.S.take k)) hWr 0 sq _ _ _ _ hd hcr hsq2 hFk.1 hFk.2 (by omega)
            unfold orA at kS
            have kRk := kR (f + (k : Int)) wr
            rw [hsq] at kRk
            have hwf : IntKind.i64.wrap (f + (k : Int)) = f + (k : Int) := wrap_in _ (by omega) (by omega)
            have HES : Hid (Z.sa = some ⟨b, off, none⟩) := es
            clear eDk hsq hc es
            generalize (rs.getD k kr0).a = ak at *
            generalize (rs.getD k kr0).n = nk at *
            generalize (rs.getD k kr0).c = ckk at *
            have es := HES.out
            rw [es]
            clear es
            go_wp2_with (first
              | (go_at_call 41; refine kRk.mono ?_; rintro e x8 ⟨rfl, hx8⟩; have hx8 := hx8.symm; subst hx8)
              | (go_at_call 44; refine kS.mono ?_; rintro e x9 ⟨rfl, ua9, uc9, us9, hW9, F9, n9⟩))
            go_roundw
            case rel =>
              refine ⟨k + 1, ua9, uc9, us9, by go_num, by omega, ?_, Fz.trans Fr F9 (fun i hil hi => by rcases hi with hi | hi; exact .inl hi; rcases nr i hi with h' | h'; exact .inr h'; omega), fun x hx => by rcases n9 x hx with h' | h'; exact nr x h'; exact .inr (Nat.le_trans Fr.size h')⟩
              rw [take_one d.S k (by omega), upL_add, List.length_take, Nat.min_eq_left (by omega), ← List.append_assoc, ← HDk.out]
              show HW lo x9 g ⟨d.cr, d.nx, d.ah, 0, d.pa, (d.tr + 1), d.li, 0, d.pu, d.hl, d.S, d.Q⟩ Z rs qs ua9 (un + (k + 1)) uc9 us9 (U ++ upL d.cr.toNat f (List.take k d.S) ++ [orL d.cr.toNat false false ((f + (k : Int)) % 256).toNat (rs.getD k kr0).D])
              rw [HSQ.out, Int.toNat_natCast]
              exact hW9
            case measure => simp [intOf]; omega
          · have hlt' : ¬ (k : Int) < (Z.sn : Int) := by omega
            obtain rfl : k = Z.sn := by omega
            go_wp2
            go_end0
            rw [eD.out, eU.out, ← upL_mod, HF.out]
            rw [List.take_of_length_le (by omega)] at hWr
            first | exact ⟨rfl, ua', un + Z.sn, uc', us', hWr, Fr⟩ | exact ⟨rfl, ⟨ua', un + Z.sn, uc', us', hWr⟩, Fr⟩
    · have HN : Hid ((!saW d wt ag) = true ∧ d.ti + 1 < d.pa) := by
        have := HBB.out
        rw [← HWI.out] at this
        show _ ∧ _
        simpa using this
      have eD : Hid (saD d wt ag = ⟨d.cr, d.nx, d.ah, (d.ti + 1), d.pa, d.tr, d.li, d.si, d.pu, d.hl, d.S, d.Q⟩) := by show _ = _; unfold saD; rw [if_neg hE, if_pos HN.out]
      have eU : Hid (saU d wt ag = []) := by show _ = _; unfold saU; rw [if_neg hE, if_pos HN.out]
      go_wp2_with (have _t := s1; clear s1; refine wpList_stC _ rfl _ _ _ rfl g 5 57 _ #[.int .i64 d.cr, .int .i64 d.nx, .int .i64 d.ah, .slice Z.sa Z.sn Z.sc, .slice Z.qa Z.qn Z.qc, .int .i64 (d.ti + 1), .int .i64 d.pa, .int .i64 d.tr, .int .i64 d.li, .int .i64 d.si, .int .i64 d.pu, .int .i64 d.hl, .slice ua un uc] (.int .i64 (d.ti + 1)) rfl rfl hW2.box (stc_int _ _ _) (by show 5 < 13; decide) rfl ?_; intro x3 b3 u3; skip)
      refine bodyPost_ret (results_none rfl _ _ _) rfl ?_
      rw [eD.out, eU.out, List.append_nil]
      have hfin := hW2.setI ⟨d.cr, d.nx, d.ah, (d.ti + 1), d.pa, d.tr, d.li, d.si, d.pu, d.hl, d.S, d.Q⟩ rfl rfl b3 u3
      have F3 := F2.step u3 (fun k e _ => by cases e; exact .inl rfl)
      first | exact ⟨rfl, ua, un, uc, us, hfin, F3⟩ | exact ⟨rfl, ⟨ua, un, uc, us, hfin⟩, F3⟩

theorem run_app0 (w : World) (ty : TypeId) (base : Option Addr) (n cap : Nat) (hle : n ≤ cap) (q : Option Addr) (c : Nat) : (Builtin.append_ #[23, 23] ty #[.slice base n cap, .slice q 0 c]).run Try.prog w = .ok (.slice base n cap) w := by
  obtain ⟨i0, hi, hz0, hz1, hz2⟩ := info_parts Try.info_rw
  cases q with
  | none => exact run_append_nothing w 23 23 ty 29 i0 Try.underlying23 hi base n cap hle _ (Src.ofNil w Try.underlying23 c)
  | some ad => exact run_append_nothing w 23 23 ty 29 i0 Try.underlying23 hi base n cap hle _ (Src.ofSlice w Try.underlying23 ad 0 c [] (by simp) (fun j u hu => by cases hu) (fun u hu => by cases hu))
/-- the first of those that were asked for are sent now -/
theorem HW.move {lo : Nat} {w w3 w4 w5 w6 : World} {g : Nat} {d : Hd} {Z : Hx} {rs qs : List Rw} {ua : Option Addr} {un uc : Nat} {us : List Rw} {U : List (List Nat)} {C4 : Array Value} (h : HW lo w g d Z rs qs ua un uc us U) (n gx cx gq : Nat) (hn : n ≤ Z.qn) (eq : Z.qa = some ⟨gq, 0, none⟩)
    (hgx : (Value.slice Z.sa Z.sn Z.sc).ownBlock = some gx ∨ w.heap.size ≤ gx) (u3 : w.grownBy w3 (Value.slice Z.sa Z.sn Z.sc).ownBlock) (ow : w3.ownsRow 0 29 1 (.slice (some ⟨gx, 0, none⟩) (Z.sn + n) cx) (Z.sn + n) (flatR rs ++ flatR (qs.take n)))
    (b4 : BxS w4 g 57 C4) (u4 : w3.grownBy w4 (some g)) (o5 : OwR w5 lo (some ⟨gq, 0, none⟩) (Z.qn - n) Z.qc (qs.drop n)) (u5 : w4.grownBy w5 (some gq)) (b6 : BxS w6 g 57 #[.int .i64 d.cr, .int .i64 d.nx, .int .i64 d.ah, .slice (some ⟨gx, 0, none⟩) (Z.sn + n) cx, .slice (some ⟨gq, 0, none⟩) (Z.qn - n) Z.qc, .int .i64 d.ti, .int .i64 d.pa, .int .i64 d.tr, .int .i64 d.li, .int .i64 d.si, .int .i64 d.pu, .int .i64 d.hl, .slice ua un uc]) (u6 : w5.grownBy w6 (some g)) :
    HW lo w6 g ⟨d.cr, d.nx, d.ah, d.ti, d.pa, d.tr, d.li, d.si, d.pu, d.hl, (d.S ++ d.Q.take n), (d.Q.drop n)⟩ ⟨some ⟨gx, 0, none⟩, Z.sn + n, cx, some ⟨gq, 0, none⟩, Z.qn - n, Z.qc⟩ (rs ++ qs.take n) (qs.drop n) ua un uc us U := by
  have hgw := h.box.lt
  have ofq : Ofr (.slice Z.qa Z.qn Z.qc) qs gq := .inl (by rw [eq]; rfl)
  have hgq := h.o.q.hi gq ofq
  have nS : ∀ x, Ofr (.slice Z.sa Z.sn Z.sc) rs x → ¬ x = g := fun x hx e => by subst e; exact box_ofrC h.o.s h.box _ hx rfl
  have nQ : ∀ x, Ofr (.slice Z.qa Z.qn Z.qc) qs x → ¬ x = g := fun x hx e => by subst e; exact box_ofrC h.o.q h.box _ hx rfl
  have nU : ∀ x, Ofr (.slice ua un uc) us x → ¬ x = g := fun x hx e => by subst e; exact box_ofrC h.u h.box _ hx rfl
  let p : Nat → Prop := fun i => (Value.slice Z.sa Z.sn Z.sc).ownBlock = some i ∨ i = g ∨ i = gq
  have ff : Fz p w w6 := ((((Fz.refl p w).step u3 (fun k e _ => .inl e)).step u4 (fun k e _ => .inr (.inl (Option.some.inj e).symm))).step u5 (fun k e _ => .inr (.inr (Option.some.inj e).symm))).step u6 (fun k e _ => .inr (.inl (Option.some.inj e).symm))
  have rS : ∀ r, r ∈ rs → ∀ x, r.v.ownBlock = some x → ¬ p x := fun r hr x e hp => by
    have hO : Ofr (.slice Z.sa Z.sn Z.sc) rs x := .inr ⟨r, hr, e⟩
    rcases hp with hp | hp | hp
    · exact own_apart (h.o.s.o.each r hr).own h.o.s.o.own ne_u8.symm x e hp
    · exact nS x hO hp
    · subst hp; exact h.o.ap _ hO ofq
  have rQ : ∀ r, r ∈ qs → ∀ x, r.v.ownBlock = some x → ¬ p x := fun r hr x e hp => by
    have hO : Ofr (.slice Z.qa Z.qn Z.qc) qs x := .inr ⟨r, hr, e⟩
    rcases hp with hp | hp | hp
    · exact h.o.ap x (.inl hp) hO
    · exact nQ x hO hp
    · subst hp
      exact own_apart (h.o.q.o.each r hr).own h.o.q.o.own ne_u8.symm x e (by rw [eq]; rfl)
  have gxg : ¬ gx = g := fun e => by
    rcases hgx with hx | hx
    · exact nS gx (.inl hx) e
    · omega
  have gxq : ¬ gx = gq := fun e => by
    rcases hgx with hx | hx
    · subst e; exact h.o.ap _ (.inl hx) ofq
    · omega
  have b5 := b4.keep u5 (fun e => nQ gq ofq (Option.some.inj e).symm)
  have hlo : lo ≤ gx := by
    rcases hgx with hx | hx
    · exact h.o.s.o.new gx hx
    · have := h.gl; omega
  have subQ : ∀ x, Ofr (.slice (some ⟨gq, 0, none⟩) (Z.qn - n) Z.qc) (qs.drop n) x → Ofr (.slice Z.qa Z.qn Z.qc) qs x := fun x hx => by
    rcases hx with hx | ⟨r, hr, hx⟩
    · exact .inl (by rw [eq]; exact hx)
    · exact .inr ⟨r, List.mem_of_mem_drop hr, hx⟩
  have hpw : (qs.take n ++ qs.drop n).Pairwise fun r s => ∀ g, r.v.ownBlock = some g → s.v.ownBlock ≠ some g := by rw [List.take_append_drop]; exact h.o.q.o.apart
  obtain ⟨pw1, pw2, pw3⟩ := List.pairwise_append.1 hpw
  have kp : ∀ x, p x → ∀ y, some x = some y → True := fun _ _ _ _ => trivial
  have ow6 := ((ow.kept u4 (.inr (fun e => gxg (Option.some.inj e)))).kept u5 (.inr (fun e => gxq (Option.some.inj e)))).kept u6 (.inr (fun e => gxg (Option.some.inj e)))
  have hS : OwR w6 lo (some ⟨gx, 0, none⟩) (Z.sn + n) cx (rs ++ qs.take n) := by
    refine ⟨by unfold flatR at ow6 ⊢; rw [List.map_append]; exact ow6, ?_, ?_, fun r hr => ?_, List.pairwise_append.2 ⟨h.o.s.o.apart, pw1, fun r hr q hq x e1 e2 => h.o.ap x (.inr ⟨r, hr, e1⟩) (.inr ⟨q, List.mem_of_mem_take hq, e2⟩)⟩⟩
    · rw [List.length_append, List.length_take, h.o.s.o.len, h.o.q.o.len]; omega
    · intro y e
      have e : gx = y := Option.some.inj e
      omega
    · rcases List.mem_append.1 hr with hr | hr
      · exact (h.o.s.o.each r hr).fz ff (rS r hr)
      · exact (h.o.q.o.each r (List.mem_of_mem_take hr)).fz ff (rQ r (List.mem_of_mem_take hr))
  have hQ := o5.fz (fz_of2 u6) (fun x hx e => ofr_box o5 b5 (by decide) (by decide) hx (Option.some.inj e).symm)
  have subS : ∀ x, Ofr (.slice (some ⟨gx, 0, none⟩) (Z.sn + n) cx) (rs ++ qs.take n) x → x = gx ∨ Ofr (.slice Z.sa Z.sn Z.sc) rs x ∨ ∃ r, r ∈ qs.take n ∧ r.v.ownBlock = some x := fun x hx => by
    rcases hx with hx | ⟨r, hr, hx⟩
    · exact .inl (Option.some.inj hx).symm
    · rcases List.mem_append.1 hr with hr | hr
      · exact .inr (.inl (.inr ⟨r, hr, hx⟩))
      · exact .inr (.inr ⟨r, hr, hx⟩)
  refine ⟨b6, h.gl, ⟨⟨hS, by rw [List.map_append, h.o.s.d, List.map_take, h.o.q.d]⟩, ⟨hQ, by rw [List.map_drop, h.o.q.d]⟩, fun x h1 h2 => ?_⟩, h.u.fz ff (fun x hx hp => ?_), fun x hx hb => ?_⟩
  · have h2' := subQ x h2
    rcases subS x h1 with e | e | ⟨r, hr, e⟩
    · subst e
      rcases hgx with hx | hx
      · exact h.o.ap _ (.inl hx) h2'
      · have := h.o.q.hi _ h2'; omega
    · exact h.o.ap x e h2'
    · rcases h2 with h2 | ⟨q, hq, h2⟩
      · have h2 : gq = x := Option.some.inj h2
        subst h2
        exact own_apart (h.o.q.o.each r (List.mem_of_mem_take hr)).own h.o.q.o.own ne_u8.symm gq e (by rw [eq]; rfl)
      · exact pw3 r hr q hq x e h2
  · rcases hp with hp | hp | hp
    · exact h.ap x hx (.inl (.inl hp))
    · exact nU x hx hp
    · subst hp; exact h.ap _ hx (.inr ofq)
  · rcases hb with hb | hb
    · rcases subS x hb with e | e | ⟨r, hr, e⟩
      · subst e
        rcases hgx with hh | hh
        · exact h.ap _ hx (.inl (.inl hh))
        · have := h.u.hi _ hx; omega
      · exact h.ap x hx (.inl e)
      · exact h.ap x hx (.inr (.inr ⟨r, List.mem_of_mem_take hr, e⟩))
    · exact h.ap x hx (.inr (subQ x hb))

theorem delete0_any (a : Option Addr) (n cap : Nat) (w : World) (hn : n ≤ cap ∧ n ≤ 1000) :
    Calls Try.prog 43 #[.slice a n cap, .int .i64 0, .int .i64 0] w fun e w' => e = .returned (.slice a n cap) ∧ w' = w := by
  have h1 : (n : Int) ≤ (cap : Int) := by omega
  have h2 : (0 : Int) ≤ (n : Int) := by omega
  go_enter Try.func43, Try.ntmps43
  go_wp2
  go_ret
  exact ⟨rfl, rfl⟩
/-- how many go up anew -/
def snK (d : Hd) : Nat := min (d.ah - (d.S.length : Int)).toNat d.Q.length
/-- what sendNew makes of a hand -/
def snD (d : Hd) : Hd := ⟨d.cr, (d.nx + (snK d : Int)) % 256, d.ah, d.ti, d.pa, d.tr, d.li, d.si, d.pu, d.hl, d.S ++ d.Q.take (snK d), d.Q.drop (snK d)⟩
/-- what it sends up -/
def snU (d : Hd) : List (List Nat) := upL d.cr.toNat d.nx (d.Q.take (snK d))
set_option maxHeartbeats 64000000 in
theorem sendNew_any (lo : Nat) (w : World) (g : Nat) (d : Hd) (Z : Hx) (rs qs : List Rw) (ua : Option Addr) (un uc : Nat) (us : List Rw) (U : List (List Nat)) (h : HW lo w g d Z rs qs ua un uc us U) (hcr : 0 ≤ d.cr ∧ d.cr ≤ 1023) (hnx : 0 ≤ d.nx ∧ d.nx ≤ 255) (hah : (d.S.length : Int) ≤ d.ah ∧ d.ah ≤ 127) (hq : d.Q.length ≤ 100) (hF : ∀ i, i < d.Q.length → 1 ≤ (d.Q.getD i []).length ∧ (d.Q.getD i []).length ≤ 1017) (hun : un ≤ 500) :
    Calls Try.prog 32 #[.pointer (some ⟨g, 0, none⟩)] w fun e w' => e = .returned (.tuple #[]) ∧ ∃ (Z' : Hx) (rs' qs' : List Rw) (ua' : Option Addr) (un' uc' : Nat) (us' : List Rw), HW lo w' g (snD d) Z' rs' qs' ua' un' uc' us' (U ++ snU d) ∧ Fz (fun i => lo ≤ i) w w' := by
  have hW := h
  have hls := h.o.s.len
  have hlq := h.o.q.len
  obtain ⟨n, hn⟩ : ∃ n : Nat, snK d = n := ⟨_, rfl⟩
  have hnv : (n : Int) = (if (Z.qn : Int) < d.ah - (Z.sn : Int) then (Z.qn : Int) else d.ah - (Z.sn : Int)) := by
    unfold snK at hn
    split <;> omega
  have hnq : n ≤ Z.qn := by split at hnv <;> omega
  have hbd := hW.box.keep (grown_drew w none) (by simp)
  have hw1 : IntKind.i64.wrap (d.ah - (Z.sn : Int)) = d.ah - (Z.sn : Int) := wrap_in _ (by omega) (by omega)
  have hF0 : Fz (fun i => lo ≤ i) w w.drew := (Fz.refl _ w).step (grown_drew w none) (fun k e _ => by cases e)
  go_enter Try.func32, Try.ntmps32
  go_wp2
  refine wp_regionL (fun wz => BxS wz g 57 #[.int .i64 d.cr, .int .i64 d.nx, .int .i64 d.ah, .slice Z.sa Z.sn Z.sc, .slice Z.qa Z.qn Z.qc, .int .i64 d.ti, .int .i64 d.pa, .int .i64 d.tr, .int .i64 d.li, .int .i64 d.si, .int .i64 d.pu, .int .i64 d.hl, .slice ua un uc]) [] #[false, false, false, false, false, false, false, false, false, false, false, false, false, false, false, false, false, false, false, false] rfl (by kernel_rfl) ?_
  refine wpAnyZ_take [] 0 (.pointer (some ⟨g, 0, none⟩)) rfl (by kernel_rfl) (fun _ _ _ h => h) hbd rfl (by intro wz hz; obtain ⟨z0, z1, z2, z3, z4, z5, z6, z7, z8, z9, z10, z11, z12⟩ := BxS.cell13 hz; go_simp) ?_
  try simp only [List.getElem_toArray, List.getElem_cons_succ, List.getElem_cons_zero, Act.put, List.setIfInBounds_toArray, List.set_cons_zero, List.set_cons_succ]
  refine wpAnyZ_take [] 1 (.pointer (some ⟨g, 0, none⟩)) rfl (by kernel_rfl) (fun _ _ _ h => h) hbd rfl (by intro wz hz; obtain ⟨z0, z1, z2, z3, z4, z5, z6, z7, z8, z9, z10, z11, z12⟩ := BxS.cell13 hz; go_simp) ?_
  try simp only [List.getElem_toArray, List.getElem_cons_succ, List.getElem_cons_zero, Act.put, List.setIfInBounds_toArray, List.set_cons_zero, List.set_cons_succ]
  refine wpAnyZ_take [] 2 (.pointer (some ⟨g, 0, none⟩)) rfl (by kernel_rfl) (fun _ _ _ h => h) hbd rfl (by intro wz hz; obtain ⟨z0, z1, z2, z3, z4, z5, z6, z7, z8, z9, z10, z11, z12⟩ := BxS.cell13 hz; go_simp) ?_
  try simp only [List.getElem_toArray, List.getElem_cons_succ, List.getElem_cons_zero, Act.put, List.setIfInBounds_toArray, List.set_cons_zero, List.set_cons_succ]
  refine wpAnyZ_take [] 3 (.pointer (some ⟨g, 2, none⟩)) rfl (by kernel_rfl) (fun _ _ _ h => h) hbd rfl (by intro wz hz; obtain ⟨z0, z1, z2, z3, z4, z5, z6, z7, z8, z9, z10, z11, z12⟩ := BxS.cell13 hz; go_simp) ?_
  try simp only [List.getElem_toArray, List.getElem_cons_succ, List.getElem_cons_zero, Act.put, List.setIfInBounds_toArray, List.set_cons_zero, List.set_cons_succ]
  refine wpAnyZ_take [] 4 (.int .i64 d.ah) rfl (by kernel_rfl) (fun _ _ _ h => h) hbd rfl (by intro wz hz; obtain ⟨z0, z1, z2, z3, z4, z5, z6, z7, z8, z9, z10, z11, z12⟩ := BxS.cell13 hz; go_simp) ?_
  try simp only [List.getElem_toArray, List.getElem_cons_succ, List.getElem_cons_zero, Act.put, List.setIfInBounds_toArray, List.set_cons_zero, List.set_cons_succ]
  refine wpAnyZ_take [] 5 (.pointer (some ⟨g, 0, none⟩)) rfl (by kernel_rfl) (fun _ _ _ h => h) hbd rfl (by intro wz hz; obtain ⟨z0, z1, z2, z3, z4, z5, z6, z7, z8, z9, z10, z11, z12⟩ := BxS.cell13 hz; go_simp) ?_
  try simp only [List.getElem_toArray, List.getElem_cons_succ, List.getElem_cons_zero, Act.put, List.setIfInBounds_toArray, List.set_cons_zero, List.set_cons_succ]
  refine wpAnyZ_take [] 6 (.pointer (some ⟨g, 0, none⟩)) rfl (by kernel_rfl) (fun _ _ _ h => h) hbd rfl (by intro wz hz; obtain ⟨z0, z1, z2, z3, z4, z5, z6, z7, z8, z9, z10, z11, z12⟩ := BxS.cell13 hz; go_simp) ?_
  try simp only [List.getElem_toArray, List.getElem_cons_succ, List.getElem_cons_zero, Act.put, List.setIfInBounds_toArray, List.set_cons_zero, List.set_cons_succ]
  refine wpAnyZ_take [] 7 (.pointer (some ⟨g, 0, none⟩)) rfl (by kernel_rfl) (fun _ _ _ h => h) hbd rfl (by intro wz hz; obtain ⟨z0, z1, z2, z3, z4, z5, z6, z7, z8, z9, z10, z11, z12⟩ := BxS.cell13 hz; go_simp) ?_
  try simp only [List.getElem_toArray, List.getElem_cons_succ, List.getElem_cons_zero, Act.put, List.setIfInBounds_toArray, List.set_cons_zero, List.set_cons_succ]
  refine wpAnyZ_take [] 8 (.pointer (some ⟨g, 3, none⟩)) rfl (by kernel_rfl) (fun _ _ _ h => h) hbd rfl (by intro wz hz; obtain ⟨z0, z1, z2, z3, z4, z5, z6, z7, z8, z9, z10, z11, z12⟩ := BxS.cell13 hz; go_simp) ?_
  try simp only [List.getElem_toArray, List.getElem_cons_succ, List.getElem_cons_zero, Act.put, List.setIfInBounds_toArray, List.set_cons_zero, List.set_cons_succ]
  refine wpAnyZ_take [] 9 (.slice Z.sa Z.sn Z.sc) rfl (by kernel_rfl) (fun _ _ _ h => h) hbd rfl (by intro wz hz; obtain ⟨z0, z1, z2, z3, z4, z5, z6, z7, z8, z9, z10, z11, z12⟩ := BxS.cell13 hz; go_simp) ?_
  try simp only [List.getElem_toArray, List.getElem_cons_succ, List.getElem_cons_zero, Act.put, List.setIfInBounds_toArray, List.set_cons_zero, List.set_cons_succ]
  refine wpAnyZ_take [] 10 (.int .i64 (Z.sn : Int)) rfl (by kernel_rfl) (fun _ _ _ h => h) hbd rfl (by intro wz hz; obtain ⟨z0, z1, z2, z3, z4, z5, z6, z7, z8, z9, z10, z11, z12⟩ := BxS.cell13 hz; go_simp) ?_
  try simp only [List.getElem_toArray, List.getElem_cons_succ, List.getElem_cons_zero, Act.put, List.setIfInBounds_toArray, List.set_cons_zero, List.set_cons_succ]
  refine wpAnyZ_take [] 11 (.int .i64 (d.ah - (Z.sn : Int))) rfl (by kernel_rfl) (fun _ _ _ h => h) hbd rfl (by intro wz hz; obtain ⟨z0, z1, z2, z3, z4, z5, z6, z7, z8, z9, z10, z11, z12⟩ := BxS.cell13 hz; go_simp) ?_
  try simp only [List.getElem_toArray, List.getElem_cons_succ, List.getElem_cons_zero, Act.put, List.setIfInBounds_toArray, List.set_cons_zero, List.set_cons_succ]
  refine wpAnyZ_take [] 12 (.pointer (some ⟨g, 0, none⟩)) rfl (by kernel_rfl) (fun _ _ _ h => h) hbd rfl (by intro wz hz; obtain ⟨z0, z1, z2, z3, z4, z5, z6, z7, z8, z9, z10, z11, z12⟩ := BxS.cell13 hz; go_simp) ?_
  try simp only [List.getElem_toArray, List.getElem_cons_succ, List.getElem_cons_zero, Act.put, List.setIfInBounds_toArray, List.set_cons_zero, List.set_cons_succ]
  refine wpAnyZ_take [] 13 (.pointer (some ⟨g, 0, none⟩)) rfl (by kernel_rfl) (fun _ _ _ h => h) hbd rfl (by intro wz hz; obtain ⟨z0, z1, z2, z3, z4, z5, z6, z7, z8, z9, z10, z11, z12⟩ := BxS.cell13 hz; go_simp) ?_
  try simp only [List.getElem_toArray, List.getElem_cons_succ, List.getElem_cons_zero, Act.put, List.setIfInBounds_toArray, List.set_cons_zero, List.set_cons_succ]
  refine wpAnyZ_take [] 14 (.pointer (some ⟨g, 0, none⟩)) rfl (by kernel_rfl) (fun _ _ _ h => h) hbd rfl (by intro wz hz; obtain ⟨z0, z1, z2, z3, z4, z5, z6, z7, z8, z9, z10, z11, z12⟩ := BxS.cell13 hz; go_simp) ?_
  try simp only [List.getElem_toArray, List.getElem_cons_succ, List.getElem_cons_zero, Act.put, List.setIfInBounds_toArray, List.set_cons_zero, List.set_cons_succ]
  refine wpAnyZ_take [] 15 (.pointer (some ⟨g, 4, none⟩)) rfl (by kernel_rfl) (fun _ _ _ h => h) hbd rfl (by intro wz hz; obtain ⟨z0, z1, z2, z3, z4, z5, z6, z7, z8, z9, z10, z11, z12⟩ := BxS.cell13 hz; go_simp) ?_
  try simp only [List.getElem_toArray, List.getElem_cons_succ, List.getElem_cons_zero, Act.put, List.setIfInBounds_toArray, List.set_cons_zero, List.set_cons_succ]
  refine wpAnyZ_take [] 16 (.slice Z.qa Z.qn Z.qc) rfl (by kernel_rfl) (fun _ _ _ h => h) hbd rfl (by intro wz hz; obtain ⟨z0, z1, z2, z3, z4, z5, z6, z7, z8, z9, z10, z11, z12⟩ := BxS.cell13 hz; go_simp) ?_
  try simp only [List.getElem_toArray, List.getElem_cons_succ, List.getElem_cons_zero, Act.put, List.setIfInBounds_toArray, List.set_cons_zero, List.set_cons_succ]
  refine wpAnyZ_take [] 17 (.int .i64 (Z.qn : Int)) rfl (by kernel_rfl) (fun _ _ _ h => h) hbd rfl (by intro wz hz; obtain ⟨z0, z1, z2, z3, z4, z5, z6, z7, z8, z9, z10, z11, z12⟩ := BxS.cell13 hz; go_simp) ?_
  try simp only [List.getElem_toArray, List.getElem_cons_succ, List.getElem_cons_zero, Act.put, List.setIfInBounds_toArray, List.set_cons_zero, List.set_cons_succ]
  refine wpAnyZ_take [] 18 (.int .i64 (n : Int)) rfl (by kernel_rfl) (fun _ _ _ h => h) hbd rfl (by intro wz hz; obtain ⟨z0, z1, z2, z3, z4, z5, z6, z7, z8, z9, z10, z11, z12⟩ := BxS.cell13 hz; try rw [hnv]; go_simp) ?_
  try simp only [List.getElem_toArray, List.getElem_cons_succ, List.getElem_cons_zero, Act.put, List.setIfInBounds_toArray, List.set_cons_zero, List.set_cons_succ]
  refine wpAnyZ_take [] 19 (.int .i64 (n : Int)) rfl (by kernel_rfl) (fun _ _ _ h => h) hbd rfl (by intro wz hz; obtain ⟨z0, z1, z2, z3, z4, z5, z6, z7, z8, z9, z10, z11, z12⟩ := BxS.cell13 hz; go_simp) ?_
  try simp only [List.getElem_toArray, List.getElem_cons_succ, List.getElem_cons_zero, Act.put, List.setIfInBounds_toArray, List.set_cons_zero, List.set_cons_succ]
  refine wpAnyZ_doneB (by kernel_rfl) ?_ _
  have hW1 := hW.keep (grown_drew w none)
  generalize w.drew = w1 at *
  clear hnv hw1
  obtain ⟨h0, h1, h2, h3, h4, h5, h6, h7, h8, h9, h10, h11, h12⟩ := hbd.cell13
  have hsl : (n : Int) ≤ (Z.qc : Int) := by have := hW.o.q.o.x.max.1; omega
  have hsl' : n ≤ Z.qc := by omega
  have kR := fun z wz => around_any z wz
  have hqm := hW1.o.q.o.x.max
  have hmm : maxLen ≤ 9223372036854775807 := by decide
  have hx1 := hnx.1
  have hx2 := hnx.2
  let pq : Exit → Act → World → Prop := bodyPost Try.prog Try.f32 (fun e w' => e = .returned (.tuple #[]) ∧ ∃ (Z' : Hx) (rs' qs' : List Rw) (ua' : Option Addr) (un' uc' : Nat) (us' : List Rw), HW lo w' g (snD d) Z' rs' qs' ua' un' uc' us' (U ++ snU d) ∧ Fz (fun i => lo ≤ i) w w')
  go_upto_block 0 with fail
  go_cut [32, 4] from 33 to 56 (fun s32 s4 wy => ∃ (ua' : Option Addr) (uc' : Nat) (us' : List Rw), HW lo wy g ⟨d.cr, (d.nx + (n : Int)) % 256, d.ah, d.ti, d.pa, d.tr, d.li, d.si, d.pu, d.hl, d.S, d.Q⟩ Z rs qs ua' (un + n) uc' us' (U ++ upL d.cr.toNat d.nx (d.Q.take n)) ∧ Fz (fun i => lo ≤ i) w wy)
  case first =>
    clear h0 h1 h2 h3 h4 h5 h6 h7 h8 h9 h10 h11 h12
    go_wp2
    go_loopw [32] (fun iv wr => ∃ (k : Nat) (ua' : Option Addr) (uc' : Nat) (us' : List Rw), iv = .int .i64 k ∧ k ≤ n ∧ HW lo wr g ⟨d.cr, (d.nx + (k : Int)) % 256, d.ah, d.ti, d.pa, d.tr, d.li, d.si, d.pu, d.hl, d.S, d.Q⟩ Z rs qs ua' (un + k) uc' us' (U ++ upL d.cr.toNat d.nx (d.Q.take k)) ∧ Fz (fun i => lo ≤ i) w wr) (fun iv _ => n - (intOf iv).toNat)
    case atStart => exact ⟨0, ua, uc, us, by go_num, Nat.zero_le _, by rw [show U ++ upL d.cr.toNat d.nx (d.Q.take 0) = U from by simp [upL], show (d.nx + ((0 : Nat) : Int)) % 256 = d.nx by omega]; exact hW1, hF0⟩
    case round =>
      obtain ⟨k, ua', uc', us', rfl, hk, hWr, Fr⟩ := hrel
      by_cases hlt : k < n
      · have hlt' : (k : Int) < (n : Int) := by omega
        have hR := hWr.o.q.o.rdr
        obtain ⟨b, off, es, hbw, hc⟩ := hR.at' (by omega)
        have ck := hc k (by omega)
        have hd := hR.data k (by omega)
        have eDk : (qs.getD k kr0).D = d.Q.getD k [] := by
          have e2 : qs.map Rw.D = d.Q := hWr.o.q.d
          rw [← e2, getD_map_D qs k (by rw [hWr.o.q.o.len]; omega)]
        have hFk := hF k (by omega)
        rw [← eDk, hd.len] at hFk
        have HDk : Hid ((qs.getD k kr0).D = d.Q.getD k []) := eDk
        try dsimp only at ck hd
        obtain ⟨sq, hsq⟩ : ∃ sq : Nat, (d.nx + (k : Int)) % 256 = (sq : Int) := ⟨((d.nx + (k : Int)) % 256).toNat, by omega⟩
        have hsq2 : sq < 256 := by omega
        have HSQ : Hid ((d.nx + (k : Int)) % 256 = (sq : Int)) := hsq
        have HS2 : Hid (((sq : Int) + 1) % 256 = (d.nx + ((k + 1 : Nat) : Int)) % 256) := by show _ = _; omega
        rw [hsq] at hWr
        have kS := send4_any lo wr g ⟨d.cr, (sq : Int), d.ah, d.ti, d.pa, d.tr, d.li, d.si, d.pu, d.hl, d.S, d.Q⟩ Z rs qs ua' (un + k) uc' us' (U ++ upL d.cr.toNat d.nx (d.Q.take k)) hWr 0 sq _ _ _ _ hd hcr hsq2 hFk.1 hFk.2 (by omega)
        unfold orA at kS
        have bx := hWr.box
        dsimp only at bx
        obtain ⟨h0, h1, h2, h3, h4, h5, h6, h7, h8, h9, h10, h11, h12⟩ := bx.cell13
        have hwf : IntKind.i64.wrap ((sq : Int) + 1) = (sq : Int) + 1 := wrap_in _ (by omega) (by omega)
        have HES : Hid (Z.qa = some ⟨b, off, none⟩) := es
        clear eDk hsq hc es
        generalize (qs.getD k kr0).a = ak at *
        generalize (qs.getD k kr0).n = nk at *
        generalize (qs.getD k kr0).c = ckk at *
        have es := HES.out
        rw [es]
        rw [es] at h4
        clear es
        have s0 : True := trivial
        go_wp2_with (first
          | (go_at_call 44; have _t := s0; clear s0; refine kS.mono ?_; rintro e x9 ⟨rfl, ua9, uc9, us9, hW9, F9⟩; clear h0 h1 h2 h3 h4 h5 h6 h7 h8 h9 h10 h11 h12; have bx9 := hW9.box; dsimp only at bx9; obtain ⟨h0, h1, h2, h3, h4, h5, h6, h7, h8, h9, h10, h11, h12⟩ := bx9.cell13; have s1 : True := trivial)
          | (go_at_call 41; have _t := s1; clear s1; refine (kR ((sq : Int) + 1) x9).mono ?_; rintro e x8 ⟨rfl, hx8⟩; have hx8 := hx8.symm; subst hx8; have s2 : True := trivial)
          | (have _t := s2; clear s2; refine wpList_stC _ rfl _ _ _ rfl g 1 57 _ #[.int .i64 d.cr, .int .i64 (((sq : Int) + 1) % 256), .int .i64 d.ah, .slice Z.sa Z.sn Z.sc, .slice Z.qa Z.qn Z.qc, .int .i64 d.ti, .int .i64 d.pa, .int .i64 d.tr, .int .i64 d.li, .int .i64 d.si, .int .i64 d.pu, .int .i64 d.hl, .slice ua9 (un + k + 1) uc9] (.int .i64 (((sq : Int) + 1) % 256)) rfl rfl bx9 (stc_int _ _ _) (by show 1 < 13; decide) rfl ?_; intro x10 b10 u10))
        have hW10 := hW9.setI ⟨d.cr, ((sq : Int) + 1) % 256, d.ah, d.ti, d.pa, d.tr, d.li, d.si, d.pu, d.hl, d.S, d.Q⟩ rfl rfl b10 u10
        rw [HS2.out] at hW10
        go_roundw
        case rel =>
          refine ⟨k + 1, ua9, uc9, us9, by go_num, by omega, ?_, (Fz.trans Fr F9 (fun i _ hi => hi)).step u10 (fun k e _ => by cases e; exact h.gl)⟩
          rw [take_one d.Q k (by omega), upL_add, List.length_take, Nat.min_eq_left (by omega), ← List.append_assoc, ← HDk.out]
          show HW lo x10 g _ Z rs qs ua9 (un + (k + 1)) uc9 us9 (U ++ upL d.cr.toNat d.nx (List.take k d.Q) ++ [orL d.cr.toNat false false ((d.nx + (k : Int)) % 256).toNat (qs.getD k kr0).D])
          rw [HSQ.out, Int.toNat_natCast]
          exact hW10
        case measure => simp [intOf]; omega
      · have hlt' : ¬ (k : Int) < (n : Int) := by omega
        obtain rfl : k = n := by omega
        go_wp2
        go_meet
        exact ⟨ua', uc', us', hWr, Fr⟩
  case rest =>
  obtain ⟨ua2, uc2, us2, hW2, F2⟩ := hcut
  generalize wc = w2 at *
  apply_assumption
  have bx2 := hW2.box
  dsimp only at bx2
  have hWd := hW2.keep (grown_drew w2 none)
  have bd2 := hWd.box
  dsimp only at bd2
  have Fd : Fz (fun i => lo ≤ i) w w2.drew := F2.step (grown_drew w2 none) (fun k e _ => by cases e)
  generalize hwd : w2.drew = wd at *
  have hleS := hWd.o.s.o.x.max
  have HN0 : Hid (snK d = n) := hn
  clear hn hW1
  go_wp2
  refine wp_regionL (fun wz => BxS wz g 57 #[.int .i64 d.cr, .int .i64 ((d.nx + (n : Int)) % 256), .int .i64 d.ah, .slice Z.sa Z.sn Z.sc, .slice Z.qa Z.qn Z.qc, .int .i64 d.ti, .int .i64 d.pa, .int .i64 d.tr, .int .i64 d.li, .int .i64 d.si, .int .i64 d.pu, .int .i64 d.hl, .slice ua2 (un + n) uc2]) [17] #[false, false, false, false, false, false, false, false, false, false, false, false, false, false, false, false, false, false] rfl (by kernel_rfl) ?_
  refine wpAnyZ_take [17] 0 (.pointer (some ⟨g, 0, none⟩)) rfl (by kernel_rfl) (fun _ _ _ h => h) (hwd ▸ bd2) rfl (by intro wz hz; obtain ⟨z0, z1, z2, z3, z4, z5, z6, z7, z8, z9, z10, z11, z12⟩ := BxS.cell13 hz; go_simp) ?_
  try simp only [List.getElem_toArray, List.getElem_cons_succ, List.getElem_cons_zero, Act.put, List.setIfInBounds_toArray, List.set_cons_zero, List.set_cons_succ]
  refine wpAnyZ_take [17] 1 (.pointer (some ⟨g, 0, none⟩)) rfl (by kernel_rfl) (fun _ _ _ h => h) (hwd ▸ bd2) rfl (by intro wz hz; obtain ⟨z0, z1, z2, z3, z4, z5, z6, z7, z8, z9, z10, z11, z12⟩ := BxS.cell13 hz; go_simp) ?_
  try simp only [List.getElem_toArray, List.getElem_cons_succ, List.getElem_cons_zero, Act.put, List.setIfInBounds_toArray, List.set_cons_zero, List.set_cons_succ]
  refine wpAnyZ_take [17] 2 (.pointer (some ⟨g, 0, none⟩)) rfl (by kernel_rfl) (fun _ _ _ h => h) (hwd ▸ bd2) rfl (by intro wz hz; obtain ⟨z0, z1, z2, z3, z4, z5, z6, z7, z8, z9, z10, z11, z12⟩ := BxS.cell13 hz; go_simp) ?_
  try simp only [List.getElem_toArray, List.getElem_cons_succ, List.getElem_cons_zero, Act.put, List.setIfInBounds_toArray, List.set_cons_zero, List.set_cons_succ]
  refine wpAnyZ_take [17] 3 (.pointer (some ⟨g, 0, none⟩)) rfl (by kernel_rfl) (fun _ _ _ h => h) (hwd ▸ bd2) rfl (by intro wz hz; obtain ⟨z0, z1, z2, z3, z4, z5, z6, z7, z8, z9, z10, z11, z12⟩ := BxS.cell13 hz; go_simp) ?_
  try simp only [List.getElem_toArray, List.getElem_cons_succ, List.getElem_cons_zero, Act.put, List.setIfInBounds_toArray, List.set_cons_zero, List.set_cons_succ]
  refine wpAnyZ_take [17] 4 (.pointer (some ⟨g, 3, none⟩)) rfl (by kernel_rfl) (fun _ _ _ h => h) (hwd ▸ bd2) rfl (by intro wz hz; obtain ⟨z0, z1, z2, z3, z4, z5, z6, z7, z8, z9, z10, z11, z12⟩ := BxS.cell13 hz; go_simp) ?_
  try simp only [List.getElem_toArray, List.getElem_cons_succ, List.getElem_cons_zero, Act.put, List.setIfInBounds_toArray, List.set_cons_zero, List.set_cons_succ]
  refine wpAnyZ_take [17] 5 (.slice Z.sa Z.sn Z.sc) rfl (by kernel_rfl) (fun _ _ _ h => h) (hwd ▸ bd2) rfl (by intro wz hz; obtain ⟨z0, z1, z2, z3, z4, z5, z6, z7, z8, z9, z10, z11, z12⟩ := BxS.cell13 hz; go_simp) ?_
  try simp only [List.getElem_toArray, List.getElem_cons_succ, List.getElem_cons_zero, Act.put, List.setIfInBounds_toArray, List.set_cons_zero, List.set_cons_succ]
  refine wpAnyZ_take [17] 6 (.pointer (some ⟨g, 0, none⟩)) rfl (by kernel_rfl) (fun _ _ _ h => h) (hwd ▸ bd2) rfl (by intro wz hz; obtain ⟨z0, z1, z2, z3, z4, z5, z6, z7, z8, z9, z10, z11, z12⟩ := BxS.cell13 hz; go_simp) ?_
  try simp only [List.getElem_toArray, List.getElem_cons_succ, List.getElem_cons_zero, Act.put, List.setIfInBounds_toArray, List.set_cons_zero, List.set_cons_succ]
  refine wpAnyZ_take [17] 7 (.pointer (some ⟨g, 0, none⟩)) rfl (by kernel_rfl) (fun _ _ _ h => h) (hwd ▸ bd2) rfl (by intro wz hz; obtain ⟨z0, z1, z2, z3, z4, z5, z6, z7, z8, z9, z10, z11, z12⟩ := BxS.cell13 hz; go_simp) ?_
  try simp only [List.getElem_toArray, List.getElem_cons_succ, List.getElem_cons_zero, Act.put, List.setIfInBounds_toArray, List.set_cons_zero, List.set_cons_succ]
  refine wpAnyZ_take [17] 8 (.pointer (some ⟨g, 0, none⟩)) rfl (by kernel_rfl) (fun _ _ _ h => h) (hwd ▸ bd2) rfl (by intro wz hz; obtain ⟨z0, z1, z2, z3, z4, z5, z6, z7, z8, z9, z10, z11, z12⟩ := BxS.cell13 hz; go_simp) ?_
  try simp only [List.getElem_toArray, List.getElem_cons_succ, List.getElem_cons_zero, Act.put, List.setIfInBounds_toArray, List.set_cons_zero, List.set_cons_succ]
  refine wpAnyZ_take [17] 9 (.pointer (some ⟨g, 4, none⟩)) rfl (by kernel_rfl) (fun _ _ _ h => h) (hwd ▸ bd2) rfl (by intro wz hz; obtain ⟨z0, z1, z2, z3, z4, z5, z6, z7, z8, z9, z10, z11, z12⟩ := BxS.cell13 hz; go_simp) ?_
  try simp only [List.getElem_toArray, List.getElem_cons_succ, List.getElem_cons_zero, Act.put, List.setIfInBounds_toArray, List.set_cons_zero, List.set_cons_succ]
  refine wpAnyZ_take [17] 10 (.slice Z.qa Z.qn Z.qc) rfl (by kernel_rfl) (fun _ _ _ h => h) (hwd ▸ bd2) rfl (by intro wz hz; obtain ⟨z0, z1, z2, z3, z4, z5, z6, z7, z8, z9, z10, z11, z12⟩ := BxS.cell13 hz; go_simp) ?_
  try simp only [List.getElem_toArray, List.getElem_cons_succ, List.getElem_cons_zero, Act.put, List.setIfInBounds_toArray, List.set_cons_zero, List.set_cons_succ]
  refine wpAnyZ_take [17] 11 (.int .i64 (n : Int)) rfl (by kernel_rfl) (fun _ _ _ h => h) (hwd ▸ bd2) rfl (by intro wz hz; obtain ⟨z0, z1, z2, z3, z4, z5, z6, z7, z8, z9, z10, z11, z12⟩ := BxS.cell13 hz; go_simp) ?_
  try simp only [List.getElem_toArray, List.getElem_cons_succ, List.getElem_cons_zero, Act.put, List.setIfInBounds_toArray, List.set_cons_zero, List.set_cons_succ]
  refine wpAnyZ_take [17] 12 (.slice Z.qa n Z.qc) rfl (by kernel_rfl) (fun _ _ _ h => h) (hwd ▸ bd2) rfl (by intro wz hz; obtain ⟨z0, z1, z2, z3, z4, z5, z6, z7, z8, z9, z10, z11, z12⟩ := BxS.cell13 hz; go_simp) ?_
  try simp only [List.getElem_toArray, List.getElem_cons_succ, List.getElem_cons_zero, Act.put, List.setIfInBounds_toArray, List.set_cons_zero, List.set_cons_succ]
  rw [hwd]
  rcases Nat.eq_zero_or_pos n with hn0 | hnp
  · refine wpAnyZ_oneB 13 rfl (by kernel_rfl) (fun K hK => ?_)
    have kz := run_app0 wd 23 Z.sa Z.sn Z.sc hleS.1 Z.qa Z.qc
    refine step_app (v2 := .slice Z.qa 0 Z.qc) rfl rfl _ _ rfl rfl (by subst hn0; rfl) kz ?_
    refine hK _ _ (fun _ => bd2) ?_
    try simp only [List.getElem_toArray, List.getElem_cons_succ, List.getElem_cons_zero, Act.put, List.setIfInBounds_toArray, List.set_cons_zero, List.set_cons_succ]
    refine wpAnyZ_take [15, 16, 17] 14 (.pointer (some ⟨g, 0, none⟩)) rfl (by kernel_rfl) (fun _ _ _ h => h) bd2 rfl (by intro wz hz; obtain ⟨z0, z1, z2, z3, z4, z5, z6, z7, z8, z9, z10, z11, z12⟩ := BxS.cell13 hz; go_simp) ?_
    try simp only [List.getElem_toArray, List.getElem_cons_succ, List.getElem_cons_zero, Act.put, List.setIfInBounds_toArray, List.set_cons_zero, List.set_cons_succ]
    refine wpAnyZ_take [16, 17] 15 (.pointer (some ⟨g, 0, none⟩)) rfl (by kernel_rfl) (fun _ _ _ h => h) bd2 rfl (by intro wz hz; obtain ⟨z0, z1, z2, z3, z4, z5, z6, z7, z8, z9, z10, z11, z12⟩ := BxS.cell13 hz; go_simp) ?_
    try simp only [List.getElem_toArray, List.getElem_cons_succ, List.getElem_cons_zero, Act.put, List.setIfInBounds_toArray, List.set_cons_zero, List.set_cons_succ]
    refine wpAnyZ_take [17] 16 (.pointer (some ⟨g, 3, none⟩)) rfl (by kernel_rfl) (fun _ _ _ h => h) bd2 rfl (by intro wz hz; obtain ⟨z0, z1, z2, z3, z4, z5, z6, z7, z8, z9, z10, z11, z12⟩ := BxS.cell13 hz; go_simp) ?_
    try simp only [List.getElem_toArray, List.getElem_cons_succ, List.getElem_cons_zero, Act.put, List.setIfInBounds_toArray, List.set_cons_zero, List.set_cons_succ]
    refine wpAnyZ_oneB 17 rfl (by kernel_rfl) (fun K hK => ?_)
    refine step_stC _ rfl _ _ _ rfl g 3 57 _ #[.int .i64 d.cr, .int .i64 ((d.nx + (n : Int)) % 256), .int .i64 d.ah, .slice Z.sa Z.sn Z.sc, .slice Z.qa Z.qn Z.qc, .int .i64 d.ti, .int .i64 d.pa, .int .i64 d.tr, .int .i64 d.li, .int .i64 d.si, .int .i64 d.pu, .int .i64 d.hl, .slice ua2 (un + n) uc2] (.slice Z.sa Z.sn Z.sc) rfl rfl bd2 (stc_rows _ _ _ _ _) (by show 3 < 13; decide) rfl ?_
    intro w3 b3 u3
    refine hK _ _ (fun h => absurd (by decide) h) ?_
    try simp only [List.getElem_toArray, List.getElem_cons_succ, List.getElem_cons_zero, Act.put, List.setIfInBounds_toArray, List.set_cons_zero, List.set_cons_succ]
    refine wpAnyZ_doneB (by kernel_rfl) ?_ _
    have hW3 := hWd.setI ⟨d.cr, (d.nx + (n : Int)) % 256, d.ah, d.ti, d.pa, d.tr, d.li, d.si, d.pu, d.hl, d.S, d.Q⟩ rfl rfl b3 u3
    have F3 := Fd.step u3 (fun k e _ => by cases e; exact h.gl)
    obtain ⟨h0, h1, h2, h3, h4, h5, h6, h7, h8, h9, h10, h11, h12⟩ := b3.cell13
    have kD := fun wz => delete0_any Z.qa Z.qn Z.qc wz (by have := hWd.o.q.o.x.max; omega)
    have en : (n : Int) = 0 := by omega
    rw [en]
    have s0 : True := trivial
    go_wp2_with (first
      | (go_at_call 43; have _t := s0; clear s0; refine (kD w3).mono ?_; rintro e x9 ⟨rfl, hx9⟩; have hx9 := hx9.symm; subst hx9; have s1 : True := trivial)
      | (have _t := s1; clear s1; refine wpList_stC _ rfl _ _ _ rfl g 4 57 _ #[.int .i64 d.cr, .int .i64 ((d.nx + (n : Int)) % 256), .int .i64 d.ah, .slice Z.sa Z.sn Z.sc, .slice Z.qa Z.qn Z.qc, .int .i64 d.ti, .int .i64 d.pa, .int .i64 d.tr, .int .i64 d.li, .int .i64 d.si, .int .i64 d.pu, .int .i64 d.hl, .slice ua2 (un + n) uc2] (.slice Z.qa Z.qn Z.qc) rfl rfl b3 (stc_rows _ _ _ _ _) (by show 4 < 13; decide) rfl ?_; intro x10 b10 u10))
    have hW10 := hW3.setI ⟨d.cr, (d.nx + (n : Int)) % 256, d.ah, d.ti, d.pa, d.tr, d.li, d.si, d.pu, d.hl, d.S, d.Q⟩ rfl rfl b10 u10
    have F10 := F3.step u10 (fun k e _ => by cases e; exact h.gl)
    go_end0
    unfold snD snU
    rw [HN0.out]
    subst hn0
    rw [List.take_zero, List.drop_zero, List.append_nil]
    rw [List.take_zero] at hW10
    first | exact ⟨rfl, Z, rs, qs, ua2, _, uc2, us2, hW10, F10⟩ | exact ⟨rfl, ⟨Z, rs, qs, ua2, _, uc2, us2, hW10⟩, F10⟩
  · obtain ⟨gq, eq, _, _⟩ := hWd.o.q.o.x.someK (by omega)
    have hlS : Z.sn ≤ 127 := by omega
    have hqx := hWd.o.q.o.x
    obtain ⟨i0, hi, hz0, hz1, hz2⟩ := info_parts Try.info_rw
    have ub := hWd.o.s.o.box bd2 (by decide)
    refine wpAnyZ_oneB 13 rfl (by kernel_rfl) (fun K hK => ?_)
    refine step_apS _ rfl _ _ 23 29 i0 Go.Proofs.Ytlfacjpehhcdiaa.zr 1 24 Try.underlying23 hi hz0 hz1 hz2 rfl (by decide) rfl (.slice Z.sa Z.sn Z.sc) Z.sn (flatR rs) rfl hWd.o.s.o.own ⟨gq, 0, none⟩ n Z.qc (flatR (qs.take n)) (by rw [← eq]; rfl) (by rw [flatR_len, List.length_take, hWd.o.q.o.len]; omega) (fun j u hu => ?_) (flatR_one _) hnp (by unfold maxLen; omega) (by omega) ?_
    · have hu' : (flatR qs)[j]? = some u := by
        simp only [flatR, List.map_take, List.getElem?_take] at hu ⊢
        split at hu
        · exact hu
        · cases hu
      rw [eq] at hqx
      rw [addr_add]
      exact hqx.cell _ u (by rw [Nat.zero_add]; exact hu')
    intro gx cx w3 hgx u3 ow
    have b3 := bd2.keep u3 (fun e => ub e.symm)
    refine hK _ _ (fun _ => b3) ?_
    try simp only [List.getElem_toArray, List.getElem_cons_succ, List.getElem_cons_zero, Act.put, List.setIfInBounds_toArray, List.set_cons_zero, List.set_cons_succ]
    refine wpAnyZ_take [15, 16, 17] 14 (.pointer (some ⟨g, 0, none⟩)) rfl (by kernel_rfl) (fun _ _ _ h => h) b3 rfl (by intro wz hz; obtain ⟨z0, z1, z2, z3, z4, z5, z6, z7, z8, z9, z10, z11, z12⟩ := BxS.cell13 hz; go_simp) ?_
    try simp only [List.getElem_toArray, List.getElem_cons_succ, List.getElem_cons_zero, Act.put, List.setIfInBounds_toArray, List.set_cons_zero, List.set_cons_succ]
    refine wpAnyZ_take [16, 17] 15 (.pointer (some ⟨g, 0, none⟩)) rfl (by kernel_rfl) (fun _ _ _ h => h) b3 rfl (by intro wz hz; obtain ⟨z0, z1, z2, z3, z4, z5, z6, z7, z8, z9, z10, z11, z12⟩ := BxS.cell13 hz; go_simp) ?_
    try simp only [List.getElem_toArray, List.getElem_cons_succ, List.getElem_cons_zero, Act.put, List.setIfInBounds_toArray, List.set_cons_zero, List.set_cons_succ]
    refine wpAnyZ_take [17] 16 (.pointer (some ⟨g, 3, none⟩)) rfl (by kernel_rfl) (fun _ _ _ h => h) b3 rfl (by intro wz hz; obtain ⟨z0, z1, z2, z3, z4, z5, z6, z7, z8, z9, z10, z11, z12⟩ := BxS.cell13 hz; go_simp) ?_
    try simp only [List.getElem_toArray, List.getElem_cons_succ, List.getElem_cons_zero, Act.put, List.setIfInBounds_toArray, List.set_cons_zero, List.set_cons_succ]
    refine wpAnyZ_oneB 17 rfl (by kernel_rfl) (fun K hK => ?_)
    refine step_stC _ rfl _ _ _ rfl g 3 57 _ #[.int .i64 d.cr, .int .i64 ((d.nx + (n : Int)) % 256), .int .i64 d.ah, .slice (some ⟨gx, 0, none⟩) (Z.sn + n) cx, .slice Z.qa Z.qn Z.qc, .int .i64 d.ti, .int .i64 d.pa, .int .i64 d.tr, .int .i64 d.li, .int .i64 d.si, .int .i64 d.pu, .int .i64 d.hl, .slice ua2 (un + n) uc2] (.slice (some ⟨gx, 0, none⟩) (Z.sn + n) cx) rfl rfl b3 (stc_rows _ _ _ _ _) (by show 3 < 13; decide) rfl ?_
    intro w4 b4 u4
    refine hK _ _ (fun h => absurd (by decide) h) ?_
    try simp only [List.getElem_toArray, List.getElem_cons_succ, List.getElem_cons_zero, Act.put, List.setIfInBounds_toArray, List.set_cons_zero, List.set_cons_succ]
    refine wpAnyZ_doneB (by kernel_rfl) ?_ _
    have q3 := hWd.o.q.fz (fz_of2 u3) (fun x hx e => hWd.o.ap x (.inl e) hx)
    have q4 := q3.fz (fz_of2 u4) (box_ofrC q3 b3)
    have o4 := q4.o
    rw [eq] at o4
    have kD := deleteR_any gq Z.qn Z.qc lo n qs w4 o4 hnp hnq (by omega)
    obtain ⟨h0, h1, h2, h3, h4, h5, h6, h7, h8, h9, h10, h11, h12⟩ := b4.cell13
    rw [eq] at h4
    have s0 : True := trivial
    go_wp2_with (first
      | (go_at_call 43; have _t := s0; clear s0; refine kD.mono ?_; rintro e w5 ⟨rfl, o5, u5⟩; have b5 := b4.keep u5 (fun e => box_ofrC q4 b4 gq (.inl (by rw [eq]; rfl)) e); have s1 : True := trivial)
      | (have _t := s1; clear s1; refine wpList_stC _ rfl _ _ _ rfl g 4 57 _ #[.int .i64 d.cr, .int .i64 ((d.nx + (n : Int)) % 256), .int .i64 d.ah, .slice (some ⟨gx, 0, none⟩) (Z.sn + n) cx, .slice (some ⟨gq, 0, none⟩) (Z.qn - n) Z.qc, .int .i64 d.ti, .int .i64 d.pa, .int .i64 d.tr, .int .i64 d.li, .int .i64 d.si, .int .i64 d.pu, .int .i64 d.hl, .slice ua2 (un + n) uc2] (.slice (some ⟨gq, 0, none⟩) (Z.qn - n) Z.qc) rfl rfl b5 (stc_rows _ _ _ _ _) (by show 4 < 13; decide) rfl ?_; intro w6 b6 u6))
    have hM := HW.move hWd n gx cx gq hnq eq hgx u3 ow b4 u4 o5 u5 b6 u6
    have F6 := (((Fd.step u3 (fun k e _ => hWd.o.s.o.new k e)).step u4 (fun k e _ => by cases e; exact h.gl)).step u5 (fun k e _ => by have e := Option.some.inj e; subst e; exact hWd.o.q.o.new gq (by rw [eq]; rfl))).step u6 (fun k e _ => by cases e; exact h.gl)
    go_end0
    unfold snD snU
    rw [HN0.out]
    first | exact ⟨rfl, _, _, _, ua2, _, uc2, us2, hM, F6⟩ | exact ⟨rfl, ⟨_, _, _, ua2, _, uc2, us2, hM⟩, F6⟩
end
end Go.Proofs.Ytlfacjpehhcdiaa
