import Derived.Test.YtnimehkfnpepfaaGi6
import Derived.Test.YtnimehkfnpepfaaGi3
namespace Go.Proofs.Ytnimehkfnpepfaa
open Go.RowKit
set_option maxRecDepth 100000
set_option linter.unusedVariables false
set_option linter.unusedSimpArgs false

section
theorem step_app {w w' : World} {ops : Array Oper} {o : Oper} {a : Act} {K : Act → World → Prop} {Q : Exit → Act → World → Prop} {E : Prop} {t : TypeId} {v v1 v2 : Value} (hg : o.guard = none) (ht : o.type = t) (s x : Operand)
    (hop : o.op = Op.call { callee := .builtin .append, args := #[s, x], argTypes := #[t, t] }) (hs : a.eval s = v1) (hx : a.eval x = v2) (hrun : (Builtin.append_ #[t, t] t #[v1, v2]).run Try.prog w = .ok v w') (h : K (a.put o.dst v) w') :
    if Region.wanted o (yielded ops a.tmps) = true then Oper.wp Try.prog o a w K Q else E := by
  have hw : Region.wanted o (yielded ops a.tmps) = true := by simp [Region.wanted, hg]
  rw [if_pos hw]
  unfold Oper.wp
  simp [execOp, hop, resolve, invoke, builtin, ht, hs, hx, hrun, Result.andThen, Oper.upon]
  exact h
def flP (G : List (Int × Int)) : List Value := G.flatMap fun p => [.int .i64 p.1, .int .i64 p.2]
theorem flP_len (G : List (Int × Int)) : (flP G).length = G.length * 2 := by
  induction G with
  | nil => rfl
  | cons x G ih => show (_ :: _ :: flP G).length = _; rw [List.length_cons, List.length_cons, ih, List.length_cons]; omega
theorem flP_app (G H : List (Int × Int)) : flP (G ++ H) = flP G ++ flP H := List.flatMap_append
theorem flP_take : ∀ (G : List (Int × Int)) (m : Nat), (flP G).take (m * 2) = flP (G.take m) := by
  intro G
  induction G with
  | nil => intro m; simp [flP]
  | cons x G ih =>
    intro m
    cases m with
    | zero => rfl
    | succ m =>
      show (_ :: _ :: flP G).take ((m + 1) * 2) = _ :: _ :: flP (G.take m)
      rw [show (m + 1) * 2 = m * 2 + 1 + 1 by omega, List.take_succ_cons, List.take_succ_cons, ih]
theorem flP_drop : ∀ (G : List (Int × Int)) (m : Nat), (flP G).drop (m * 2) = flP (G.drop m) := by
  intro G
  induction G with
  | nil => intro m; simp [flP]
  | cons x G ih =>
    intro m
    cases m with
    | zero => rfl
    | succ m =>
      show (_ :: _ :: flP G).drop ((m + 1) * 2) = flP (G.drop m)
      rw [show (m + 1) * 2 = m * 2 + 1 + 1 by omega, List.drop_succ_cons, List.drop_succ_cons, ih]
theorem flP_one (G : List (Int × Int)) : ∀ u, u ∈ flP G → u.oneCell' = true := by
  intro u hu
  unfold flP at hu
  obtain ⟨p, _, hp⟩ := List.mem_flatMap.1 hu
  simp only [List.mem_cons, List.not_mem_nil, or_false] at hp
  rcases hp with rfl | rfl <;> rfl
theorem flP_tk (G : List (Int × Int)) : ∀ k, k ≤ G.length → flP (G.take k) = flG (giF G) k := by
  intro k
  induction k with
  | zero => intro _; rfl
  | succ k ih =>
    intro hk
    have e : giF G k = G[k]'(by omega) := by unfold giF; rw [List.getD_eq_getElem?_getD, List.getElem?_eq_getElem (by omega)]; rfl
    rw [List.take_add_one, flP_app, ih (by omega), List.getElem?_eq_getElem (by omega)]
    show _ = flG (giF G) k ++ [.int .i64 (giF G k).1, .int .i64 (giF G k).2]
    rw [e]
    rfl
theorem flP_flG (G : List (Int × Int)) (m : Nat) (h : G.length = m) : flP G = flG (giF G) m := by
  have := flP_tk G m (by omega)
  rw [List.take_of_length_le (by omega)] at this
  exact this
theorem OwGi.max {w : World} {lo g n cap : Nat} {G : List (Int × Int)} (h : OwGi w lo (some ⟨g, 0, none⟩) n cap G) : n ≤ cap ∧ cap ≤ maxLen := by
  rcases h.own.2 with ⟨h1, _⟩ | ⟨g', cap', cur, h1, h2, h3, h4, h5, h6, h7⟩
  · simp at h1
  · simp only [Value.slice.injEq, Option.some.injEq, Addr.mk.injEq] at h1
    obtain ⟨_, _, rfl⟩ := h1
    exact ⟨h4, h5⟩
theorem OwGi.ownP {w : World} {lo g n cap : Nat} {G : List (Int × Int)} (h : OwGi w lo (some ⟨g, 0, none⟩) n cap G) : w.ownsRow 0 82 2 (.slice (some ⟨g, 0, none⟩) n cap) n (flP G) := by
  rw [flP_flG G n h.len]; exact h.own
theorem own_takeP {w : World} {g n cap : Nat} {ks : List (Int × Int)} (h : w.ownsRow 0 82 2 (.slice (some ⟨g, 0, none⟩) n cap) n (flP ks)) (hl : ks.length = n) (m : Nat) (hm : m ≤ n) : w.ownsRow 0 82 2 (.slice (some ⟨g, 0, none⟩) m cap) m (flP (ks.take m)) := by
  refine ⟨by rw [flP_len, List.length_take]; omega, ?_⟩
  rcases h.2 with ⟨h1, _⟩ | ⟨g', cap', cur, h1, h2, h3, h4, h5, h6, h7⟩
  · simp at h1
  · simp only [Value.slice.injEq, Option.some.injEq, Addr.mk.injEq] at h1
    obtain ⟨⟨rfl, _⟩, _, rfl⟩ := h1
    refine .inr ⟨g, cap, cur, rfl, h2, h3, by omega, h5, h6, ?_⟩
    rw [← flP_take, ← h7, List.take_take]
    congr 1
    omega
theorem own_setP {w : World} {g n cap : Nat} {X : List Value} (h : w.ownsRow 0 82 2 (.slice (some ⟨g, 0, none⟩) n cap) n X) (i : Nat) (v : Value) (hi : n * 2 ≤ i) : (w.setCell ⟨g, i, none⟩ v).ownsRow 0 82 2 (.slice (some ⟨g, 0, none⟩) n cap) n X := by
  refine ⟨h.1, ?_⟩
  rcases h.2 with ⟨h1, _⟩ | ⟨g', cap', cur, h1, h2, h3, h4, h5, h6, h7⟩
  · simp at h1
  · simp only [Value.slice.injEq, Option.some.injEq, Addr.mk.injEq] at h1
    obtain ⟨⟨rfl, _⟩, _, rfl⟩ := h1
    refine .inr ⟨g, cap, cur.setIfInBounds i v, rfl, h2, heap_setCell_same w g i _ _ _ h3, h4, h5, by simpa using h6, ?_⟩
    rw [← h7, Array.toList_setIfInBounds, List.take_set_of_le hi]
theorem own_clrP {g n cap : Nat} {X : List Value} (vs : List Value) : ∀ (o : Nat) (w : World), w.ownsRow 0 82 2 (.slice (some ⟨g, 0, none⟩) n cap) n X → n * 2 ≤ o → (w.setCells g o vs).ownsRow 0 82 2 (.slice (some ⟨g, 0, none⟩) n cap) n X ∧ w.grownBy (w.setCells g o vs) (some g) := by
  induction vs with
  | nil => exact fun o w h _ => ⟨h, World.grownBy.refl _ _⟩
  | cons v vs ih =>
    intro o w h ho
    obtain ⟨k1, k2⟩ := ih (o + 1) _ (own_setP h o v ho) (by omega)
    exact ⟨k1, grown_trans (grown_set w g o v) k2⟩
theorem zero_pr (w : World) : (zeroValue 82).run Try.prog w = .ok (.agg #[.int .i64 0, .int .i64 0]) w := by go_simp
theorem run_clear_pr (w : World) (ty : TypeId) (b o c : Nat) (hc : ∀ j, j < 2 → (w.cell? ⟨b, o + j, none⟩).isSome = true) (hf : ∀ j, j < 2 → w.frozen? ⟨b, o + j, none⟩ = false) :
    (Builtin.clear_ #[24] ty #[.slice (some ⟨b, o, none⟩) 1 c]).run Try.prog w = .ok (.tuple #[]) (w.setCells b o [.int .i64 0, .int .i64 0]) := by
  have hzc : (Builtin.zeroCells (Value.agg #[.int .i64 0, .int .i64 0]).cells 1).toList = [.int .i64 0, .int .i64 0] := by first | kernel_rfl | decide +kernel | (simp [Builtin.zeroCells]; rfl)
  have hst := run_storeCells_cells (P := Try.prog) b o [.int .i64 0, .int .i64 0] 0 w (by simpa using hc) (by simpa using hf) (by intro v hv; simp only [List.mem_cons, List.not_mem_nil, or_false] at hv; rcases hv with rfl | rfl <;> rfl)
  simp only [Nat.add_zero] at hst
  simp [Builtin.clear_, run_underlying Try.underlying24, zero_pr, hzc, hst]
/-- a pair less -/
theorem OwGi.erase {w w' : World} {lo g n cap j : Nat} {ks : List (Int × Int)} (h : OwGi w lo (some ⟨g, 0, none⟩) n cap ks) (hj : j < n) (ho : w'.ownsRow 0 82 2 (.slice (some ⟨g, 0, none⟩) (n - 1) cap) (n - 1) (flP (ks.eraseIdx j))) (hg : w.grownBy w' (some g)) : OwGi w' lo (some ⟨g, 0, none⟩) (n - 1) cap (ks.eraseIdx j) := by
  have hl := h.len
  have e : (ks.eraseIdx j).length = n - 1 := by rw [List.length_eraseIdx_of_lt (by omega), hl]
  exact ⟨by rw [← flP_flG _ _ e]; exact ho, e, h.new⟩
set_option maxHeartbeats 16000000 in
theorem deleteGL_any (g lo j k : Nat) (ks : List (Int × Int)) (w : World) (h : OwGi w lo (some ⟨g, 0, none⟩) k k ks) (hk : k = j + 1) (hn2 : k ≤ 1000) :
    Calls Try.prog 125 #[.slice (some ⟨g, 0, none⟩) k k, .int .i64 (j : Int), .int .i64 (k : Int)] w fun e w' => e = .returned (.slice (some ⟨g, 0, none⟩) (k - 1) k) ∧ OwGi w' lo (some ⟨g, 0, none⟩) (k - 1) k (ks.eraseIdx j) ∧ w.grownBy w' (some g) := by
  have hmx := h.max
  have hl := h.len
  obtain ⟨i0, hi, hz0, hz1, hz2⟩ := info_parts Try.info_pr
  have hT := own_takeP h.ownP hl j (by omega)
  have eer : flP (ks.take j) = flP (ks.eraseIdx j) := by rw [List.eraseIdx_eq_take_drop_succ, List.drop_eq_nil_of_le (by omega), List.append_nil]
  have k1 : ((j : Int) == (k : Int)) = false := beq_false_of_ne (by omega)
  have k2 : (j : Int) ≤ (k : Int) := by omega
  have k7 : ¬ k = j := by omega
  have eN : k - 1 = j := by omega
  obtain ⟨w2, hrun, r1, r2⟩ := run_append_fits (P := Try.prog) w.drew 0 24 24 82 i0 2 Try.underlying24 hi hz1 g j k (flP (ks.take j)) (hT.kept (grown_drew w none) (.inr (by simp [Value.ownBlock]))) ⟨g, 0, none⟩ 0 0 [] rfl (fun q u hu => by cases hu) (fun u hu => by cases hu) (by omega)
  rw [eer, List.append_nil, Nat.add_zero] at r1
  rw [Nat.add_zero] at hrun
  obtain ⟨A3, g3⟩ := own_clrP [.int .i64 0, .int .i64 0] (j * 2) w2 r1 (Nat.le_refl _)
  have gg := grown_trans (grown_trans (grown_drew w (some g)) r2) g3
  have hO := h.erase (j := j) (by omega) (by rw [eN]; exact A3) gg
  have hcl : ∀ ty, (Builtin.clear_ #[24] ty #[.slice (some ⟨g, j * 2, none⟩) (k - j) (k - j)]).run Try.prog w2 = .ok (.tuple #[]) (w2.setCells g (j * 2) [.int .i64 0, .int .i64 0]) := by
    intro ty
    rw [show k - j = 1 by omega]
    rcases r1.2 with ⟨h1, _⟩ | ⟨g', cap', cur, h1, _, h3, _, _, h6, _⟩
    · simp at h1
    · simp only [Value.slice.injEq, Option.some.injEq, Addr.mk.injEq] at h1
      obtain ⟨⟨rfl, _⟩, _, rfl⟩ := h1
      refine run_clear_pr w2 ty g _ _ (fun q hq => ?_) (fun q hq => frozen_of_row w2 g _ _ _ h3)
      rw [cell_of_row _ _ _ _ _ _ h3, Array.getElem?_eq_getElem (by omega)]
      rfl
  generalize w2.setCells g (j * 2) [.int .i64 0, .int .i64 0] = w3 at *
  clear eer hT hk hmx hl 
  go_enter Try.func125, Try.ntmps125
  go_wp2
  refine wp_regionL (fun _ => True) [] #[false, false, false, false, false, false, false, false] rfl (by kernel_rfl) ?_
  refine wpAnyZ_take [] 0 ((.slice (some ⟨g, 0, none⟩) k k)) rfl (by kernel_rfl) (fun _ _ _ h => h) trivial rfl (by intro wz _; go_simp) ?_
  try simp only [List.getElem_toArray, List.getElem_cons_succ, List.getElem_cons_zero, Act.put, List.setIfInBounds_toArray, List.set_cons_zero, List.set_cons_succ]
  refine wpAnyZ_take [] 1 (.int .i64 (j : Int)) rfl (by kernel_rfl) (fun _ _ _ h => h) trivial rfl (by intro wz _; go_simp) ?_
  try simp only [List.getElem_toArray, List.getElem_cons_succ, List.getElem_cons_zero, Act.put, List.setIfInBounds_toArray, List.set_cons_zero, List.set_cons_succ]
  refine wpAnyZ_take [] 2 ((.slice (some ⟨g, 0, none⟩) j k)) rfl (by kernel_rfl) (fun _ _ _ h => h) trivial rfl (by intro wz _; go_simp) ?_
  try simp only [List.getElem_toArray, List.getElem_cons_succ, List.getElem_cons_zero, Act.put, List.setIfInBounds_toArray, List.set_cons_zero, List.set_cons_succ]
  refine wpAnyZ_take [] 3 ((.slice (some ⟨g, 0, none⟩) k k)) rfl (by kernel_rfl) (fun _ _ _ h => h) trivial rfl (by intro wz _; go_simp) ?_
  try simp only [List.getElem_toArray, List.getElem_cons_succ, List.getElem_cons_zero, Act.put, List.setIfInBounds_toArray, List.set_cons_zero, List.set_cons_succ]
  refine wpAnyZ_take [] 4 (.int .i64 (k : Int)) rfl (by kernel_rfl) (fun _ _ _ h => h) trivial rfl (by intro wz _; go_simp) ?_
  try simp only [List.getElem_toArray, List.getElem_cons_succ, List.getElem_cons_zero, Act.put, List.setIfInBounds_toArray, List.set_cons_zero, List.set_cons_succ]
  refine wpAnyZ_take [] 5 ((.slice (some ⟨g, 0, none⟩) 0 0)) rfl (by kernel_rfl) (fun _ _ _ h => h) trivial rfl (by intro wz _; go_simp) ?_
  try simp only [List.getElem_toArray, List.getElem_cons_succ, List.getElem_cons_zero, Act.put, List.setIfInBounds_toArray, List.set_cons_zero, List.set_cons_succ]
  refine wpAnyZ_oneB 6 rfl (by kernel_rfl) (fun K hK => ?_)
  refine step_app (v := .slice (some ⟨g, 0, none⟩) (j) k) rfl rfl (.tmp 22) (.tmp 25) rfl rfl rfl hrun ?_
  refine hK _ _ (fun _ => trivial) ?_
  try simp only [List.getElem_toArray, List.getElem_cons_succ, List.getElem_cons_zero, Act.put, List.setIfInBounds_toArray, List.set_cons_zero, List.set_cons_succ]
  refine wpAnyZ_take [] 7 (.slice (some ⟨g, 0, none⟩) (j) k) rfl (by kernel_rfl) (fun _ _ _ h => h) trivial rfl (by intro wz _; go_simp) ?_
  try simp only [List.getElem_toArray, List.getElem_cons_succ, List.getElem_cons_zero, Act.put, List.setIfInBounds_toArray, List.set_cons_zero, List.set_cons_succ]
  refine wpAnyZ_doneB (by kernel_rfl) ?_ _
  go_wp2
  go_ret
  exact ⟨by rw [eN]; rfl, hO, gg⟩
set_option maxHeartbeats 16000000 in
theorem deleteG_any (g n cap lo j k : Nat) (ks : List (Int × Int)) (w : World) (h : OwGi w lo (some ⟨g, 0, none⟩) n cap ks) (hk : k = j + 1) (hkn : k ≤ n) (hn2 : n ≤ 1000) :
    Calls Try.prog 125 #[.slice (some ⟨g, 0, none⟩) n cap, .int .i64 (j : Int), .int .i64 (k : Int)] w fun e w' => e = .returned (.slice (some ⟨g, 0, none⟩) (n - 1) cap) ∧ OwGi w' lo (some ⟨g, 0, none⟩) (n - 1) cap (ks.eraseIdx j) ∧ w.grownBy w' (some g) := by
  have hmx := h.max
  have hmm : maxLen ≤ 9223372036854775807 := by decide
  have hl := h.len
  obtain ⟨p, rfl⟩ : ∃ p, n = p + k := ⟨n - k, by omega⟩
  obtain ⟨i0, hi, hz0, hz1, hz2⟩ := info_parts Try.info_pr
  have hT := own_takeP h.ownP hl j (by omega)
  have eer : flP (ks.take j) ++ flP (ks.drop k) = flP (ks.eraseIdx j) := by rw [← flP_app, List.eraseIdx_eq_take_drop_succ, hk]
  have k1 : ((j : Int) == (k : Int)) = false := beq_false_of_ne (by omega)
  have k2 : (j : Int) ≤ (k : Int) := by omega
  have k3 : (k : Int) ≤ (p : Int) + (k : Int) := by omega
  have k4 : ((p : Int) + (k : Int)) ≤ (cap : Int) := by omega
  have k5 : p + k ≤ cap := hmx.1
  have k6 : (j : Int) + (p : Int) ≤ (p : Int) + (k : Int) := by omega
  have k7 : ¬ cap = j + p := by omega
  have k8 : k ≤ cap := by omega
  have k9 : (k : Int) ≤ (cap : Int) := by omega
  have k10 : (j : Int) ≤ (cap : Int) := by omega
  have k11 : ¬ p + k = j := by omega
  have eN : p + k - 1 = j + p := by omega
  have fin : ∀ (ad : Addr) (mm cc : Nat), mm = p → (∀ q u, (flP (ks.drop k))[q]? = some u → w.drew.cell? (ad.add q) = some u) → ∃ w2 w3, (Builtin.append_ #[24, 24] 24 #[.slice (some ⟨g, 0, none⟩) j cap, .slice (some ad) mm cc]).run Try.prog w.drew = .ok (.slice (some ⟨g, 0, none⟩) (j + p) cap) w2 ∧ (∀ ty, (Builtin.clear_ #[24] ty #[.slice (some ⟨g, (j + p) * 2, none⟩) (p + k - (j + p)) (cap - (j + p))]).run Try.prog w2 = .ok (.tuple #[]) w3) ∧ OwGi w3 lo (some ⟨g, 0, none⟩) (p + k - 1) cap (ks.eraseIdx j) ∧ w.grownBy w3 (some g) := by
    intro ad mm cc hmm' hsrc
    subst hmm'
    obtain ⟨w2, hrun, r1, r2⟩ := run_append_fits (P := Try.prog) w.drew 0 24 24 82 i0 2 Try.underlying24 hi hz1 g j cap (flP (ks.take j)) (hT.kept (grown_drew w none) (.inr (by simp [Value.ownBlock]))) ad mm cc (flP (ks.drop k)) (by rw [flP_len, List.length_drop]; omega) hsrc (flP_one _) (by omega)
    rw [eer] at r1
    obtain ⟨A3, g3⟩ := own_clrP [.int .i64 0, .int .i64 0] ((j + mm) * 2) w2 r1 (Nat.le_refl _)
    have gg := grown_trans (grown_trans (grown_drew w (some g)) r2) g3
    refine ⟨w2, _, hrun, fun ty => ?_, h.erase (by omega) (by rw [eN]; exact A3) gg, gg⟩
    rw [show mm + k - (j + mm) = 1 by omega]
    rcases r1.2 with ⟨h1, _⟩ | ⟨g', cap', cur, h1, _, h3, _, _, h6, _⟩
    · simp at h1
    · simp only [Value.slice.injEq, Option.some.injEq, Addr.mk.injEq] at h1
      obtain ⟨⟨rfl, _⟩, _, rfl⟩ := h1
      refine run_clear_pr w2 ty g _ _ (fun q hq => ?_) (fun q hq => frozen_of_row w2 g _ _ _ h3)
      rw [cell_of_row _ _ _ _ _ _ h3, Array.getElem?_eq_getElem (by omega)]
      rfl
  by_cases hck : cap = k
  · have hp0 : p = 0 := by omega
    subst hp0
    subst hck
    rw [Nat.zero_add] at h ⊢
    exact deleteGL_any g lo j cap ks w h hk (by omega)
  · obtain ⟨w2, w3, hrun, hcl, hO, gg⟩ := fin ⟨g, k * 2, none⟩ p (cap - k) rfl (fun q u hu => by
      rw [← flP_drop, List.getElem?_drop] at hu
      rw [addr_add]
      have := (h.ownP.kept (grown_drew w none) (.inr (by simp [Value.ownBlock]))).cells (g := g) rfl (k * 2 + q) u hu
      rw [addr_add, Nat.zero_add] at this
      exact this)
    clear fin
    have hck' : ¬ (k : Int) = (cap : Int) := by omega
    clear eer hT hk hmx hl hkn
    go_enter Try.func125, Try.ntmps125
    go_wp2
    refine wp_regionL (fun _ => True) [] #[false, false, false, false, false, false, false, false] rfl (by kernel_rfl) ?_
    refine wpAnyZ_take [] 0 ((.slice (some ⟨g, 0, none⟩) (p + k) cap)) rfl (by kernel_rfl) (fun _ _ _ h => h) trivial rfl (by intro wz _; go_simp) ?_
    try simp only [List.getElem_toArray, List.getElem_cons_succ, List.getElem_cons_zero, Act.put, List.setIfInBounds_toArray, List.set_cons_zero, List.set_cons_succ]
    refine wpAnyZ_take [] 1 (.int .i64 (j : Int)) rfl (by kernel_rfl) (fun _ _ _ h => h) trivial rfl (by intro wz _; go_simp) ?_
    try simp only [List.getElem_toArray, List.getElem_cons_succ, List.getElem_cons_zero, Act.put, List.setIfInBounds_toArray, List.set_cons_zero, List.set_cons_succ]
    refine wpAnyZ_take [] 2 ((.slice (some ⟨g, 0, none⟩) j cap)) rfl (by kernel_rfl) (fun _ _ _ h => h) trivial rfl (by intro wz _; go_simp) ?_
    try simp only [List.getElem_toArray, List.getElem_cons_succ, List.getElem_cons_zero, Act.put, List.setIfInBounds_toArray, List.set_cons_zero, List.set_cons_succ]
    refine wpAnyZ_take [] 3 ((.slice (some ⟨g, 0, none⟩) (p + k) cap)) rfl (by kernel_rfl) (fun _ _ _ h => h) trivial rfl (by intro wz _; go_simp) ?_
    try simp only [List.getElem_toArray, List.getElem_cons_succ, List.getElem_cons_zero, Act.put, List.setIfInBounds_toArray, List.set_cons_zero, List.set_cons_succ]
    refine wpAnyZ_take [] 4 (.int .i64 (k : Int)) rfl (by kernel_rfl) (fun _ _ _ h => h) trivial rfl (by intro wz _; go_simp) ?_
    try simp only [List.getElem_toArray, List.getElem_cons_succ, List.getElem_cons_zero, Act.put, List.setIfInBounds_toArray, List.set_cons_zero, List.set_cons_succ]
    refine wpAnyZ_take [] 5 ((.slice (some ⟨g, k * 2, none⟩) p (cap - k))) rfl (by kernel_rfl) (fun _ _ _ h => h) trivial rfl (by intro wz _; go_simp) ?_
    try simp only [List.getElem_toArray, List.getElem_cons_succ, List.getElem_cons_zero, Act.put, List.setIfInBounds_toArray, List.set_cons_zero, List.set_cons_succ]
    refine wpAnyZ_oneB 6 rfl (by kernel_rfl) (fun K hK => ?_)
    refine step_app (v := .slice (some ⟨g, 0, none⟩) (j + p) cap) rfl rfl (.tmp 22) (.tmp 25) rfl rfl rfl hrun ?_
    refine hK _ _ (fun _ => trivial) ?_
    try simp only [List.getElem_toArray, List.getElem_cons_succ, List.getElem_cons_zero, Act.put, List.setIfInBounds_toArray, List.set_cons_zero, List.set_cons_succ]
    refine wpAnyZ_take [] 7 (.slice (some ⟨g, 0, none⟩) (j + p) cap) rfl (by kernel_rfl) (fun _ _ _ h => h) trivial rfl (by intro wz _; go_simp) ?_
    try simp only [List.getElem_toArray, List.getElem_cons_succ, List.getElem_cons_zero, Act.put, List.setIfInBounds_toArray, List.set_cons_zero, List.set_cons_succ]
    refine wpAnyZ_doneB (by kernel_rfl) ?_ _
    go_wp2
    go_ret
    exact ⟨by rw [eN]; rfl, hO, gg⟩
end
end Go.Proofs.Ytnimehkfnpepfaa
