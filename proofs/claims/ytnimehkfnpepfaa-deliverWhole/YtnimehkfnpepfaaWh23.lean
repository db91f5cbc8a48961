import Derived.Test.YtnimehkfnpepfaaWh6
import Derived.Test.YtnimehkfnpepfaaWh18
import Derived.Test.YtnimehkfnpepfaaWh21
import Derived.Test.YtnimehkfnpepfaaWh2
namespace Go.Proofs.Ytnimehkfnpepfaa
open Go.RowKit
set_option maxRecDepth 100000
set_option linter.unusedVariables false
set_option linter.unusedSimpArgs false

section
theorem step_app {w w' : World} {ops : Array Oper} {o : Oper} {a : Act} {K : Act → World → Prop} {Q : Exit → Act → World → Prop} {E : Prop} {t : TypeId} {v v1 v2 : Value} (hg : o.guard = none) (ht : o.type = t) (s x : Operand)
    (hop : o.op = Op.call { callee := .builtin .append, args := #[s, x], argTypes := #[t, t] }) (hs : a.eval s = v1) (hx : a.eval x = v2) (hrun : (Builtin.append_ #[t, t] t #[v1, v2]).run Try.prog w = .ok v w') (h : K (a.put o.dst v) w') :
    if Region.wanted o (yielded ops a.tmps) = true then Oper.wp Try.prog o a w K Q else E := by
  have hw : Region.wanted o (yielded ops a.tmps) = true := by simp [Region.wanted, hg]
  rw [if_pos hw]
  unfold Oper.wp
  simp [execOp, hop, resolve, invoke, builtin, ht, hs, hx, hrun, Result.andThen, Oper.upon]
  exact h
def flP (G : List (Int × Int)) : List Value := G.flatMap fun p => [.int .i64 p.1, .int .i64 p.2]
theorem flP_len (G : List (Int × Int)) : (flP G).length = G.length * 2 := by
  induction G with
  | nil => rfl
  | cons x G ih => show (_ :: _ :: flP G).length = _; rw [List.length_cons, List.length_cons, ih, List.length_cons]; omega
theorem flP_app (G H : List (Int × Int)) : flP (G ++ H) = flP G ++ flP H := List.flatMap_append
theorem flP_take : ∀ (G : List (Int × Int)) (m : Nat), (flP G).take (m * 2) = flP (G.take m) := by
  intro G
  induction G with
  | nil => intro m; simp [flP]
  | cons x G ih =>
    intro m
    cases m with
    | zero => rfl
    | succ m =>
      show (_ :: _ :: flP G).take ((m + 1) * 2) = _ :: _ :: flP (G.take m)
      rw [show (m + 1) * 2 = m * 2 + 1 + 1 by omega, List.take_succ_cons, List.take_succ_cons, ih]
theorem flP_drop : ∀ (G : List (Int × Int)) (m : Nat), (flP G).drop (m * 2) = flP (G.drop m) := by
  intro G
  induction G with
  | nil => intro m; simp [flP]
  | cons x G ih =>
    intro m
    cases m with
    | zero => rfl
    | succ m =>
      show (_ :: _ :: flP G).drop ((m + 1) * 2) = flP (G.drop m)
      rw [show (m + 1) * 2 = m * 2 + 1 + 1 by omega, List.drop_succ_cons, List.drop_succ_cons, ih]
theorem flP_one (G : List (Int × Int)) : ∀ u, u ∈ flP G → u.oneCell' = true := by
  intro u hu
  unfold flP at hu
  obtain ⟨p, _, hp⟩ := List.mem_flatMap.1 hu
  simp only [List.mem_cons, List.not_mem_nil, or_false] at hp
  rcases hp with rfl | rfl <;> rfl
theorem flP_tk (G : List (Int × Int)) : ∀ k, k ≤ G.length → flP (G.take k) = flG (giF G) k := by
  intro k
  induction k with
  | zero => intro _; rfl
  | succ k ih =>
    intro hk
    have e : giF G k = G[k]'(by omega) := by unfold giF; rw [List.getD_eq_getElem?_getD, List.getElem?_eq_getElem (by omega)]; rfl
    rw [List.take_add_one, flP_app, ih (by omega), List.getElem?_eq_getElem (by omega)]
    show _ = flG (giF G) k ++ [.int .i64 (giF G k).1, .int .i64 (giF G k).2]
    rw [e]
    rfl
theorem flP_flG (G : List (Int × Int)) (m : Nat) (h : G.length = m) : flP G = flG (giF G) m := by
  have := flP_tk G m (by omega)
  rw [List.take_of_length_le (by omega)] at this
  exact this
theorem OwGi.max {w : World} {lo g n cap : Nat} {G : List (Int × Int)} (h : OwGi w lo (some ⟨g, 0, none⟩) n cap G) : n ≤ cap ∧ cap ≤ maxLen := by
  rcases h.own.2 with ⟨h1, _⟩ | ⟨g', cap', cur, h1, h2, h3, h4, h5, h6, h7⟩
  · simp at h1
  · simp only [Value.slice.injEq, Option.some.injEq, Addr.mk.injEq] at h1
    obtain ⟨_, _, rfl⟩ := h1
    exact ⟨h4, h5⟩
theorem OwGi.ownP {w : World} {lo g n cap : Nat} {G : List (Int × Int)} (h : OwGi w lo (some ⟨g, 0, none⟩) n cap G) : w.ownsRow 0 82 2 (.slice (some ⟨g, 0, none⟩) n cap) n (flP G) := by
  rw [flP_flG G n h.len]; exact h.own
theorem own_takeP {w : World} {g n cap : Nat} {ks : List (Int × Int)} (h : w.ownsRow 0 82 2 (.slice (some ⟨g, 0, none⟩) n cap) n (flP ks)) (hl : ks.length = n) (m : Nat) (hm : m ≤ n) : w.ownsRow 0 82 2 (.slice (some ⟨g, 0, none⟩) m cap) m (flP (ks.take m)) := by
  refine ⟨by rw [flP_len, List.length_take]; omega, ?_⟩
  rcases h.2 with ⟨h1, _⟩ | ⟨g', cap', cur, h1, h2, h3, h4, h5, h6, h7⟩
  · simp at h1
  · simp only [Value.slice.injEq, Option.some.injEq, Addr.mk.injEq] at h1
    obtain ⟨⟨rfl, _⟩, _, rfl⟩ := h1
    refine .inr ⟨g, cap, cur, rfl, h2, h3, by omega, h5, h6, ?_⟩
    rw [← flP_take, ← h7, List.take_take]
    congr 1
    omega
theorem own_setP {w : World} {g n cap : Nat} {X : List Value} (h : w.ownsRow 0 82 2 (.slice (some ⟨g, 0, none⟩) n cap) n X) (i : Nat) (v : Value) (hi : n * 2 ≤ i) : (w.setCell ⟨g, i, none⟩ v).ownsRow 0 82 2 (.slice (some ⟨g, 0, none⟩) n cap) n X := by
  refine ⟨h.1, ?_⟩
  rcases h.2 with ⟨h1, _⟩ | ⟨g', cap', cur, h1, h2, h3, h4, h5, h6, h7⟩
  · simp at h1
  · simp only [Value.slice.injEq, Option.some.injEq, Addr.mk.injEq] at h1
    obtain ⟨⟨rfl, _⟩, _, rfl⟩ := h1
    refine .inr ⟨g, cap, cur.setIfInBounds i v, rfl, h2, heap_setCell_same w g i _ _ _ h3, h4, h5, by simpa using h6, ?_⟩
    rw [← h7, Array.toList_setIfInBounds, List.take_set_of_le hi]
theorem own_clrP {g n cap : Nat} {X : List Value} (vs : List Value) : ∀ (o : Nat) (w : World), w.ownsRow 0 82 2 (.slice (some ⟨g, 0, none⟩) n cap) n X → n * 2 ≤ o → (w.setCells g o vs).ownsRow 0 82 2 (.slice (some ⟨g, 0, none⟩) n cap) n X ∧ w.grownBy (w.setCells g o vs) (some g) := by
  induction vs with
  | nil => exact fun o w h _ => ⟨h, World.grownBy.refl _ _⟩
  | cons v vs ih =>
    intro o w h ho
    obtain ⟨k1, k2⟩ := ih (o + 1) _ (own_setP h o v ho) (by omega)
    exact ⟨k1, grown_trans (grown_set w g o v) k2⟩
theorem zero_pr (w : World) : (zeroValue 82).run Try.prog w = .ok (.agg #[.int .i64 0, .int .i64 0]) w := by go_simp
theorem run_clear_pr (w : World) (ty : TypeId) (b o c : Nat) (hc : ∀ j, j < 2 → (w.cell? ⟨b, o + j, none⟩).isSome = true) (hf : ∀ j, j < 2 → w.frozen? ⟨b, o + j, none⟩ = false) :
    (Builtin.clear_ #[24] ty #[.slice (some ⟨b, o, none⟩) 1 c]).run Try.prog w = .ok (.tuple #[]) (w.setCells b o [.int .i64 0, .int .i64 0]) := by
  have hzc : (Builtin.zeroCells (Value.agg #[.int .i64 0, .int .i64 0]).cells 1).toList = [.int .i64 0, .int .i64 0] := by first | kernel_rfl | decide +kernel | (simp [Builtin.zeroCells]; rfl)
  have hst := run_storeCells_cells (P := Try.prog) b o [.int .i64 0, .int .i64 0] 0 w (by simpa using hc) (by simpa using hf) (by intro v hv; simp only [List.mem_cons, List.not_mem_nil, or_false] at hv; rcases hv with rfl | rfl <;> rfl)
  simp only [Nat.add_zero] at hst
  simp [Builtin.clear_, run_underlying Try.underlying24, zero_pr, hzc, hst]
/-- a pair less -/
theorem OwGi.erase {w w' : World} {lo g n cap j : Nat} {ks : List (Int × Int)} (h : OwGi w lo (some ⟨g, 0, none⟩) n cap ks) (hj : j < n) (ho : w'.ownsRow 0 82 2 (.slice (some ⟨g, 0, none⟩) (n - 1) cap) (n - 1) (flP (ks.eraseIdx j))) (hg : w.grownBy w' (some g)) : OwGi w' lo (some ⟨g, 0, none⟩) (n - 1) cap (ks.eraseIdx j) := by
  have hl := h.len
  have e : (ks.eraseIdx j).length = n - 1 := by rw [List.length_eraseIdx_of_lt (by omega), hl]
  exact ⟨by rw [← flP_flG _ _ e]; exact ho, e, h.new⟩
set_option maxHeartbeats 16000000 in
theorem deleteGL_any (g lo j k : Nat) (ks : List (Int × Int)) (w : World) (h : OwGi w lo (some ⟨g, 0, none⟩) k k ks) (hk : k = j + 1) (hn2 : k ≤ 1000) :
    Calls Try.prog 125 #[.slice (some ⟨g, 0, none⟩) k k, .int .i64 (j : Int), .int .i64 (k : Int)] w fun e w' => e = .returned (.slice (some ⟨g, 0, none⟩) (k - 1) k) ∧ OwGi w' lo (some ⟨g, 0, none⟩) (k - 1) k (ks.eraseIdx j) ∧ w.grownBy w' (some g) := by
  have hmx := h.max
  have hl := h.len
  obtain ⟨i0, hi, hz0, hz1, hz2⟩ := info_parts Try.info_pr
  have hT := own_takeP h.ownP hl j (by omega)
  have eer : flP (ks.take j) = flP (ks.eraseIdx j) := by rw [List.eraseIdx_eq_take_drop_succ, List.drop_eq_nil_of_le (by omega), List.append_nil]
  have k1 : ((j : Int) == (k : Int)) = false := beq_false_of_ne (by omega)
  have k2 : (j : Int) ≤ (k : Int) := by omega
  have k7 : ¬ k = j := by omega
  have eN : k - 1 = j := by omega
  obtain ⟨w2, hrun, r1, r2⟩ := run_append_fits (P := Try.prog) w.drew 0 24 24 82 i0 2 Try.underlying24 hi hz1 g j k (flP (ks.take j)) (hT.kept (grown_drew w none) (.inr (by simp [Value.ownBlock]))) ⟨g, 0, none⟩ 0 0 [] rfl (fun q u hu => by cases hu) (fun u hu => by cases hu) (by omega)
  rw [eer, List.append_nil, Nat.add_zero] at r1
  rw [Nat.add_zero] at hrun
  obtain ⟨A3, g3⟩ := own_clrP [.int .i64 0, .int .i64 0] (j * 2) w2 r1 (Nat.le_refl _)
  have gg := grown_trans (grown_trans (grown_drew w (some g)) r2) g3
  have hO := h.erase (j := j) (by omega) (by rw [eN]; exact A3) gg
  have hcl : ∀ ty, (Builtin.clear_ #[24] ty #[.slice (some ⟨g, j * 2, none⟩) (k - j) (k - j)]).run Try.prog w2 = .ok (.tuple #[]) (w2.setCells g (j * 2) [.int .i64 0, .int .i64 0]) := by
    intro ty
    rw [show k - j = 1 by omega]
    rcases r1.2 with ⟨h1, _⟩ | ⟨g', cap', cur, h1, _, h3, _, _, h6, _⟩
    · simp at h1
    · simp only [Value.slice.injEq, Option.some.injEq, Addr.mk.injEq] at h1
      obtain ⟨⟨rfl, _⟩, _, rfl⟩ := h1
      refine run_clear_pr w2 ty g _ _ (fun q hq => ?_) (fun q hq => frozen_of_row w2 g _ _ _ h3)
      rw [cell_of_row _ _ _ _ _ _ h3, Array.getElem?_eq_getElem (by omega)]
      rfl
  generalize w2.setCells g (j * 2) [.int .i64 0, .int .i64 0] = w3 at *
  clear eer hT hk hmx hl 
  go_enter Try.func125, Try.ntmps125
  go_wp2
  refine wp_regionL (fun _ => True) [] #[false, false, false, false, false, false, false, false] rfl (by kernel_rfl) ?_
  refine wpAnyZ_take [] 0 ((.slice (some ⟨g, 0, none⟩) k k)) rfl (by kernel_rfl) (fun _ _ _ h => h) trivial rfl (by intro wz _; go_simp) ?_
  try simp only [zc1, zc2, zc3, Act.put, zc4, zc5, zc6]
  refine wpAnyZ_take [] 1 (.int .i64 (j : Int)) rfl (by kernel_rfl) (fun _ _ _ h => h) trivial rfl (by intro wz _; go_simp) ?_
  try simp only [zc1, zc2, zc3, Act.put, zc4, zc5, zc6]
  refine wpAnyZ_take [] 2 ((.slice (some ⟨g, 0, none⟩) j k)) rfl (by kernel_rfl) (fun _ _ _ h => h) trivial rfl (by intro wz _; go_simp) ?_
  try simp only [zc1, zc2, zc3, Act.put, zc4, zc5, zc6]
  refine wpAnyZ_take [] 3 ((.slice (some ⟨g, 0, none⟩) k k)) rfl (by kernel_rfl) (fun _ _ _ h => h) trivial rfl (by intro wz _; go_simp) ?_
  try simp only [zc1, zc2, zc3, Act.put, zc4, zc5, zc6]
  refine wpAnyZ_take [] 4 (.int .i64 (k : Int)) rfl (by kernel_rfl) (fun _ _ _ h => h) trivial rfl (by intro wz _; go_simp) ?_
  try simp only [zc1, zc2, zc3, Act.put, zc4, zc5, zc6]
  refine wpAnyZ_take [] 5 ((.slice (some ⟨g, 0, none⟩) 0 0)) rfl (by kernel_rfl) (fun _ _ _ h => h) trivial rfl (by intro wz _; go_simp) ?_
  try simp only [zc1, zc2, zc3, Act.put, zc4, zc5, zc6]
  refine wpAnyZ_oneB 6 rfl (by kernel_rfl) (fun K hK => ?_)
  refine step_app (v := .slice (some ⟨g, 0, none⟩) (j) k) rfl rfl (.tmp 22) (.tmp 25) rfl rfl rfl hrun ?_
  refine hK _ _ (fun _ => trivial) ?_
  try simp only [zc1, zc2, zc3, Act.put, zc4, zc5, zc6]
  refine wpAnyZ_take [] 7 (.slice (some ⟨g, 0, none⟩) (j) k) rfl (by kernel_rfl) (fun _ _ _ h => h) trivial rfl (by intro wz _; go_simp) ?_
  try simp only [zc1, zc2, zc3, Act.put, zc4, zc5, zc6]
  refine wpAnyZ_doneB (by kernel_rfl) ?_ _
  go_wp2
  go_ret
  exact ⟨by rw [eN]; rfl, hO, gg⟩
set_option maxHeartbeats 16000000 in
theorem deleteG_any (g n cap lo j k : Nat) (ks : List (Int × Int)) (w : World) (h : OwGi w lo (some ⟨g, 0, none⟩) n cap ks) (hk : k = j + 1) (hkn : k ≤ n) (hn2 : n ≤ 1000) :
    Calls Try.prog 125 #[.slice (some ⟨g, 0, none⟩) n cap, .int .i64 (j : Int), .int .i64 (k : Int)] w fun e w' => e = .returned (.slice (some ⟨g, 0, none⟩) (n - 1) cap) ∧ OwGi w' lo (some ⟨g, 0, none⟩) (n - 1) cap (ks.eraseIdx j) ∧ w.grownBy w' (some g) := by
  have hmx := h.max
  have hmm : maxLen ≤ 9223372036854775807 := by decide
  have hl := h.len
  obtain ⟨p, rfl⟩ : ∃ p, n = p + k := ⟨n - k, by omega⟩
  obtain ⟨i0, hi, hz0, hz1, hz2⟩ := info_parts Try.info_pr
  have hT := own_takeP h.ownP hl j (by omega)
  have eer : flP (ks.take j) ++ flP (ks.drop k) = flP (ks.eraseIdx j) := by rw [← flP_app, List.eraseIdx_eq_take_drop_succ, hk]
  have k1 : ((j : Int) == (k : Int)) = false := beq_false_of_ne (by omega)
  have k2 : (j : Int) ≤ (k : Int) := by omega
  have k3 : (k : Int) ≤ (p : Int) + (k : Int) := by omega
  have k4 : ((p : Int) + (k : Int)) ≤ (cap : Int) := by omega
  have k5 : p + k ≤ cap := hmx.1
  have k6 : (j : Int) + (p : Int) ≤ (p : Int) + (k : Int) := by omega
  have k7 : ¬ cap = j + p := by omega
  have k8 : k ≤ cap := by omega
  have k9 : (k : Int) ≤ (cap : Int) := by omega
  have k10 : (j : Int) ≤ (cap : Int) := by omega
  have k11 : ¬ p + k = j := by omega
  have eN : p + k - 1 = j + p := by omega
  have fin : ∀ (ad : Addr) (mm cc : Nat), mm = p → (∀ q u, (flP (ks.drop k))[q]? = some u → w.drew.cell? (ad.add q) = some u) → ∃ w2 w3, (Builtin.append_ #[24, 24] 24 #[.slice (some ⟨g, 0, none⟩) j cap, .slice (some ad) mm cc]).run Try.prog w.drew = .ok (.slice (some ⟨g, 0, none⟩) (j + p) cap) w2 ∧ (∀ ty, (Builtin.clear_ #[24] ty #[.slice (some ⟨g, (j + p) * 2, none⟩) (p + k - (j + p)) (cap - (j + p))]).run Try.prog w2 = .ok (.tuple #[]) w3) ∧ OwGi w3 lo (some ⟨g, 0, none⟩) (p + k - 1) cap (ks.eraseIdx j) ∧ w.grownBy w3 (some g) := by
    intro ad mm cc hmm' hsrc
    subst hmm'
    obtain ⟨w2, hrun, r1, r2⟩ := run_append_fits (P := Try.prog) w.drew 0 24 24 82 i0 2 Try.underlying24 hi hz1 g j cap (flP (ks.take j)) (hT.kept (grown_drew w none) (.inr (by simp [Value.ownBlock]))) ad mm cc (flP (ks.drop k)) (by rw [flP_len, List.length_drop]; omega) hsrc (flP_one _) (by omega)
    rw [eer] at r1
    obtain ⟨A3, g3⟩ := own_clrP [.int .i64 0, .int .i64 0] ((j + mm) * 2) w2 r1 (Nat.le_refl _)
    have gg := grown_trans (grown_trans (grown_drew w (some g)) r2) g3
    refine ⟨w2, _, hrun, fun ty => ?_, h.erase (by omega) (by rw [eN]; exact A3) gg, gg⟩
    rw [show mm + k - (j + mm) = 1 by omega]
    rcases r1.2 with ⟨h1, _⟩ | ⟨g', cap', cur, h1, _, h3, _, _, h6, _⟩
    · simp at h1
    · simp only [Value.slice.injEq, Option.some.injEq, Addr.mk.injEq] at h1
      obtain ⟨⟨rfl, _⟩, _, rfl⟩ := h1
      refine run_clear_pr w2 ty g _ _ (fun q hq => ?_) (fun q hq => frozen_of_row w2 g _ _ _ h3)
      rw [cell_of_row _ _ _ _ _ _ h3, Array.getElem?_eq_getElem (by omega)]
      rfl
  by_cases hck : cap = k
  · have hp0 : p = 0 := by omega
    subst hp0
    subst hck
    rw [Nat.zero_add] at h ⊢
    exact deleteGL_any g lo j cap ks w h hk (by omega)
  · obtain ⟨w2, w3, hrun, hcl, hO, gg⟩ := fin ⟨g, k * 2, none⟩ p (cap - k) rfl (fun q u hu => by
      rw [← flP_drop, List.getElem?_drop] at hu
      rw [addr_add]
      have := (h.ownP.kept (grown_drew w none) (.inr (by simp [Value.ownBlock]))).cells (g := g) rfl (k * 2 + q) u hu
      rw [addr_add, Nat.zero_add] at this
      exact this)
    clear fin
    have hck' : ¬ (k : Int) = (cap : Int) := by omega
    clear eer hT hk hmx hl hkn
    go_enter Try.func125, Try.ntmps125
    go_wp2
    refine wp_regionL (fun _ => True) [] #[false, false, false, false, false, false, false, false] rfl (by kernel_rfl) ?_
    refine wpAnyZ_take [] 0 ((.slice (some ⟨g, 0, none⟩) (p + k) cap)) rfl (by kernel_rfl) (fun _ _ _ h => h) trivial rfl (by intro wz _; go_simp) ?_
    try simp only [zc1, zc2, zc3, Act.put, zc4, zc5, zc6]
    refine wpAnyZ_take [] 1 (.int .i64 (j : Int)) rfl (by kernel_rfl) (fun _ _ _ h => h) trivial rfl (by intro wz _; go_simp) ?_
    try simp only [zc1, zc2, zc3, Act.put, zc4, zc5, zc6]
    refine wpAnyZ_take [] 2 ((.slice (some ⟨g, 0, none⟩) j cap)) rfl (by kernel_rfl) (fun _ _ _ h => h) trivial rfl (by intro wz _; go_simp) ?_
    try simp only [zc1, zc2, zc3, Act.put, zc4, zc5, zc6]
    refine wpAnyZ_take [] 3 ((.slice (some ⟨g, 0, none⟩) (p + k) cap)) rfl (by kernel_rfl) (fun _ _ _ h => h) trivial rfl (by intro wz _; go_simp) ?_
    try simp only [zc1, zc2, zc3, Act.put, zc4, zc5, zc6]
    refine wpAnyZ_take [] 4 (.int .i64 (k : Int)) rfl (by kernel_rfl) (fun _ _ _ h => h) trivial rfl (by intro wz _; go_simp) ?_
    try simp only [zc1, zc2, zc3, Act.put, zc4, zc5, zc6]
    refine wpAnyZ_take [] 5 ((.slice (some ⟨g, k * 2, none⟩) p (cap - k))) rfl (by kernel_rfl) (fun _ _ _ h => h) trivial rfl (by intro wz _; go_simp) ?_
    try simp only [zc1, zc2, zc3, Act.put, zc4, zc5, zc6]
    refine wpAnyZ_oneB 6 rfl (by kernel_rfl) (fun K hK => ?_)
    refine step_app (v := .slice (some ⟨g, 0, none⟩) (j + p) cap) rfl rfl (.tmp 22) (.tmp 25) rfl rfl rfl hrun ?_
    refine hK _ _ (fun _ => trivial) ?_
    try simp only [zc1, zc2, zc3, Act.put, zc4, zc5, zc6]
    refine wpAnyZ_take [] 7 (.slice (some ⟨g, 0, none⟩) (j + p) cap) rfl (by kernel_rfl) (fun _ _ _ h => h) trivial rfl (by intro wz _; go_simp) ?_
    try simp only [zc1, zc2, zc3, Act.put, zc4, zc5, zc6]
    refine wpAnyZ_doneB (by kernel_rfl) ?_ _
    go_wp2
    go_ret
    exact ⟨by rw [eN]; rfl, hO, gg⟩
end

section
def xMeta (id : Int) (nm : ByteArray) (n : Nat) : Nx := ⟨1, id, nm, (n : Int), 0, 0, [], [], 0, 0, none, 0, none, 0⟩
def xEnd (id : Int) (n s : Nat) : Nx := ⟨3, id, ⟨#[]⟩, (n : Int), (s : Int), 0, [], [], 0, 0, none, 0, none, 0⟩
def xPie (id : Int) (x : Nat) (D : List Nat) (a : Option Addr) (c : Nat) : Nx := ⟨2, id, ⟨#[]⟩, 0, 0, (x : Int), D, [], 0, 0, a, c, none, 0⟩
/-- other boxes lie as they lay -/
def FrO (gw : Nat) (na : Option Addr) (nn nc : Nat) (w w' : World) : Prop := ∀ g9 t9 cs9, BxS w g9 t9 cs9 → g9 ≠ gw → (Value.slice na nn nc).ownBlock ≠ some g9 → BxS w' g9 t9 cs9
theorem FrO.kp {wB w w' : World} {gw : Nat} {id : Int} {nm : ByteArray} {mo bu st : Int} {fi : Bool} {at' ti pa tr li : Int} {a : Option Addr} {n c : Nat} {L : List Nat} {q : Option Addr} {m d : Nat} {G : List (Int × Int)} {na : Option Addr} {nn nc : Nat} {xs : List Nx} (h : GW wB w gw id nm mo bu st fi at' ti pa tr li a n c L q m d G na nn nc xs) (f : FrO gw na nn nc w w') : KpT w w' :=
  fun g9 cs9 hb9 => f g9 _ cs9 hb9 (fun e => by subst e; exact BxS.apart hb9 h.bx (by decide) rfl) (fun e => own_ty h.N.own hb9 (by decide) e)
theorem Rd.mid {w : World} {b off n cap x e : Nat} {L : List Nat} (h : Rd w (some ⟨b, off, none⟩) n cap L) (hx : x < e) (he : e ≤ n) : Rd w (some ⟨b, off + x, none⟩) ((L.drop x).take (e - x)).length (cap - x) ((L.drop x).take (e - x)) := by
  have h1 := h.le
  have hl := h.len
  have hlen : ((L.drop x).take (e - x)).length = e - x := by rw [List.length_take, List.length_drop]; omega
  refine ⟨rfl, by omega, by have := h.max; omega, (fun e => by cases e), fun y hy => h.byte y (List.mem_of_mem_drop (List.mem_of_mem_take hy)), fun h0 => ?_⟩
  obtain ⟨b', off', e', hb, hc⟩ := h.at' (by omega)
  cases e'
  refine ⟨b, off + x, rfl, hb, fun i hi => ?_⟩
  have := hc (x + i) (by omega)
  rw [show off + x + i = off + (x + i) by omega, this]
  congr 3
  unfold nth
  rw [List.getD_eq_getElem?_getD, List.getD_eq_getElem?_getD, List.getElem?_take_of_lt (by omega), List.getElem?_drop]

set_option maxHeartbeats 16000000 in
theorem sendMeta_any (wB w : World) (gw : Nat) (id : Int) (nm : ByteArray) (mo bu st : Int) (fi : Bool) (at' ti pa tr li : Int) (a : Option Addr) (n c : Nat) (L : List Nat) (q : Option Addr) (m d : Nat) (G : List (Int × Int)) (na : Option Addr) (nn nc : Nat) (xs : List Nx) (h : GW wB w gw id nm mo bu st fi at' ti pa tr li a n c L q m d G na nn nc xs) (hn : nn ≤ 100000) : Calls Try.prog 113 #[.pointer (some ⟨gw, 0, none⟩)] w fun e w' => e = .returned (.tuple #[]) ∧ (∃ na' nc', GW wB w' gw id nm mo bu st fi at' ti pa tr li a n c L q m d G na' (nn + 1) nc' (xs ++ [xMeta id nm n])) ∧ FrO gw na nn nc w w' := by
  have Gd := grown_drew w none
  have hd := h.keepN Gd
  have SS : BxS w.drew gw 100 #[.int .i64 id, .string nm, .slice a n c, .int .i64 mo, .int .i64 bu, .int .i64 st, .bool fi, .int .i64 at', .slice q m d, .int .i64 ti, .int .i64 pa, .int .i64 tr, .int .i64 li, .slice na nn nc] := hd.bx
  go_enter Try.func113, Try.ntmps113
  refine wp_regionL (fun wz => BxS wz gw 100 #[.int .i64 id, .string nm, .slice a n c, .int .i64 mo, .int .i64 bu, .int .i64 st, .bool fi, .int .i64 at', .slice q m d, .int .i64 ti, .int .i64 pa, .int .i64 tr, .int .i64 li, .slice na nn nc]) [13] #[false, false, false, false, false, false, false, false, false, false, false, false, false, false] rfl (by kernel_rfl) ?_
  refine wpAnyZ_take [13] 0 (.pointer (some ⟨gw, 0, none⟩)) rfl (by kernel_rfl) (fun _ _ _ h => h) SS rfl (by intro wz hz; go_simp) ?_
  try simp only [zc1, zc2, zc3, Act.put, zc4, zc5, zc6]
  refine wpAnyZ_take [2, 3, 4, 5, 12, 13] 1 (.pointer (some ⟨gw, 0, none⟩)) rfl (by kernel_rfl) (fun _ _ _ h => h) SS rfl (by intro wz hz; go_simp) ?_
  try simp only [zc1, zc2, zc3, Act.put, zc4, zc5, zc6]
  refine wpAnyZ_take [3, 4, 5, 12, 13] 2 (.pointer (some ⟨gw, 0, none⟩)) rfl (by kernel_rfl) (fun _ _ _ h => h) SS rfl (by intro wz hz; go_simp) ?_
  try simp only [zc1, zc2, zc3, Act.put, zc4, zc5, zc6]
  refine wpAnyZ_take [4, 5, 12, 13] 3 (.pointer (some ⟨gw, 0, none⟩)) rfl (by kernel_rfl) (fun _ _ _ h => h) SS rfl (by intro wz hz; go_simp) ?_
  try simp only [zc1, zc2, zc3, Act.put, zc4, zc5, zc6]
  refine wpAnyZ_take [5, 12, 13] 4 (.pointer (some ⟨gw, 1, none⟩)) rfl (by kernel_rfl) (fun _ _ _ h => h) SS rfl (by intro wz hz; go_simp) ?_
  try simp only [zc1, zc2, zc3, Act.put, zc4, zc5, zc6]
  refine wpAnyZ_take [12, 13] 5 (.string nm) rfl (by kernel_rfl) (fun _ _ _ h => h) SS rfl (by intro wz hz; have z : wz.cell? ⟨gw, 1, none⟩ = some (.string nm) := hz.cell 1 (by show 1 < 14; decide); go_simp) ?_
  try simp only [zc1, zc2, zc3, Act.put, zc4, zc5, zc6]
  refine wpAnyZ_take [7, 8, 9, 10, 11, 12, 13] 6 (.pointer (some ⟨gw, 0, none⟩)) rfl (by kernel_rfl) (fun _ _ _ h => h) SS rfl (by intro wz hz; go_simp) ?_
  try simp only [zc1, zc2, zc3, Act.put, zc4, zc5, zc6]
  refine wpAnyZ_take [8, 9, 10, 11, 12, 13] 7 (.pointer (some ⟨gw, 0, none⟩)) rfl (by kernel_rfl) (fun _ _ _ h => h) SS rfl (by intro wz hz; go_simp) ?_
  try simp only [zc1, zc2, zc3, Act.put, zc4, zc5, zc6]
  refine wpAnyZ_take [9, 10, 11, 12, 13] 8 (.pointer (some ⟨gw, 0, none⟩)) rfl (by kernel_rfl) (fun _ _ _ h => h) SS rfl (by intro wz hz; go_simp) ?_
  try simp only [zc1, zc2, zc3, Act.put, zc4, zc5, zc6]
  refine wpAnyZ_take [10, 11, 12, 13] 9 (.pointer (some ⟨gw, 2, none⟩)) rfl (by kernel_rfl) (fun _ _ _ h => h) SS rfl (by intro wz hz; go_simp) ?_
  try simp only [zc1, zc2, zc3, Act.put, zc4, zc5, zc6]
  refine wpAnyZ_take [11, 12, 13] 10 (.slice a n c) rfl (by kernel_rfl) (fun _ _ _ h => h) SS rfl (by intro wz hz; have z : wz.cell? ⟨gw, 2, none⟩ = some (.slice a n c) := hz.cell 2 (by show 2 < 14; decide); go_simp) ?_
  try simp only [zc1, zc2, zc3, Act.put, zc4, zc5, zc6]
  refine wpAnyZ_take [12, 13] 11 (.int .i64 (n : Int)) rfl (by kernel_rfl) (fun _ _ _ h => h) SS rfl (by intro wz hz; go_simp) ?_
  try simp only [zc1, zc2, zc3, Act.put, zc4, zc5, zc6]
  refine wpAnyZ_take [13] 12 (.agg #[.int .i64 1, .int .i64 0, .string nm, .int .i64 (n : Int), .int .i64 0, .int .i64 0, .slice none 0 0, .slice none 0 0, .int .i64 0, .int .i64 0]) rfl (by kernel_rfl) (fun _ _ _ h => h) SS rfl (by intro wz hz; go_simp) ?_
  try simp only [zc1, zc2, zc3, Act.put, zc4, zc5, zc6]
  generalize w.drew = w2 at *
  refine wpAnyZ_oneB 13 rfl (by kernel_rfl) (fun KK hKK => ?_)
  go_simp
  go_at_call 97
  refine (send_any wB w2 gw id nm mo bu st fi at' ti pa tr li a n c L q m d G na nn nc xs hd (xMeta 0 nm n) (Ans.nil _ _) (OwGi.nil _ _) hn (fun z e => by rcases e with e | e <;> cases e)).mono ?_
  rintro e w3 ⟨rfl, ⟨na3, nc3, h3⟩, hfr⟩
  dsimp only
  refine hKK _ _ (fun h => absurd (by decide) h) ?_
  try simp only [zc1, zc2, zc3, Act.put, zc4, zc5, zc6]
  refine wpAnyZ_doneB (by kernel_rfl) ?_ _
  first | go_end0 | refine bodyPost_ret (results_none rfl _ _ _) rfl ?_
  exact ⟨rfl, ⟨na3, nc3, h3⟩, fun g9 t9 cs9 hb h1 h2 => hfr g9 t9 cs9 (hb.keep Gd (by simp)) h1 h2⟩

set_option maxHeartbeats 16000000 in
theorem sendEnd_any (wB w : World) (gw : Nat) (id : Int) (nm : ByteArray) (mo bu st : Int) (fi : Bool) (at' ti pa tr li : Int) (a : Option Addr) (n c : Nat) (L : List Nat) (q : Option Addr) (m d : Nat) (G : List (Int × Int)) (na : Option Addr) (nn nc : Nat) (xs : List Nx) (h : GW wB w gw id nm mo bu st fi at' ti pa tr li a n c L q m d G na nn nc xs) (hn : nn ≤ 100000) : Calls Try.prog 116 #[.pointer (some ⟨gw, 0, none⟩)] w fun e w' => e = .returned (.tuple #[]) ∧ (∃ na' nc', GW wB w' gw id nm mo bu st fi at' ti pa tr li a n c L q m d G na' (nn + 1) nc' (xs ++ [xEnd id n (smT L n % 4294967296)])) ∧ FrO gw na nn nc w w' := by
  have Gd := grown_drew w none
  have hd := h.keepN Gd
  have SS : BxS w.drew gw 100 #[.int .i64 id, .string nm, .slice a n c, .int .i64 mo, .int .i64 bu, .int .i64 st, .bool fi, .int .i64 at', .slice q m d, .int .i64 ti, .int .i64 pa, .int .i64 tr, .int .i64 li, .slice na nn nc] := hd.bx
  go_enter Try.func116, Try.ntmps116
  refine wp_regionL (fun wz => BxS wz gw 100 #[.int .i64 id, .string nm, .slice a n c, .int .i64 mo, .int .i64 bu, .int .i64 st, .bool fi, .int .i64 at', .slice q m d, .int .i64 ti, .int .i64 pa, .int .i64 tr, .int .i64 li, .slice na nn nc]) [14] #[false, false, false, false, false, false, false, false, false, false, false, false, false, false, false] rfl (by kernel_rfl) ?_
  refine wpAnyZ_take [14] 0 (.pointer (some ⟨gw, 0, none⟩)) rfl (by kernel_rfl) (fun _ _ _ h => h) SS rfl (by intro wz hz; go_simp) ?_
  try simp only [zc1, zc2, zc3, Act.put, zc4, zc5, zc6]
  refine wpAnyZ_take [2, 3, 4, 5, 6, 13, 14] 1 (.pointer (some ⟨gw, 0, none⟩)) rfl (by kernel_rfl) (fun _ _ _ h => h) SS rfl (by intro wz hz; go_simp) ?_
  try simp only [zc1, zc2, zc3, Act.put, zc4, zc5, zc6]
  refine wpAnyZ_take [3, 4, 5, 6, 13, 14] 2 (.pointer (some ⟨gw, 0, none⟩)) rfl (by kernel_rfl) (fun _ _ _ h => h) SS rfl (by intro wz hz; go_simp) ?_
  try simp only [zc1, zc2, zc3, Act.put, zc4, zc5, zc6]
  refine wpAnyZ_take [4, 5, 6, 13, 14] 3 (.pointer (some ⟨gw, 0, none⟩)) rfl (by kernel_rfl) (fun _ _ _ h => h) SS rfl (by intro wz hz; go_simp) ?_
  try simp only [zc1, zc2, zc3, Act.put, zc4, zc5, zc6]
  refine wpAnyZ_take [5, 6, 13, 14] 4 (.pointer (some ⟨gw, 2, none⟩)) rfl (by kernel_rfl) (fun _ _ _ h => h) SS rfl (by intro wz hz; go_simp) ?_
  try simp only [zc1, zc2, zc3, Act.put, zc4, zc5, zc6]
  refine wpAnyZ_take [6, 13, 14] 5 (.slice a n c) rfl (by kernel_rfl) (fun _ _ _ h => h) SS rfl (by intro wz hz; have z : wz.cell? ⟨gw, 2, none⟩ = some (.slice a n c) := hz.cell 2 (by show 2 < 14; decide); go_simp) ?_
  try simp only [zc1, zc2, zc3, Act.put, zc4, zc5, zc6]
  refine wpAnyZ_take [13, 14] 6 (.int .i64 (n : Int)) rfl (by kernel_rfl) (fun _ _ _ h => h) SS rfl (by intro wz hz; go_simp) ?_
  try simp only [zc1, zc2, zc3, Act.put, zc4, zc5, zc6]
  refine wpAnyZ_take [8, 9, 10, 11, 12, 13, 14] 7 (.pointer (some ⟨gw, 0, none⟩)) rfl (by kernel_rfl) (fun _ _ _ h => h) SS rfl (by intro wz hz; go_simp) ?_
  try simp only [zc1, zc2, zc3, Act.put, zc4, zc5, zc6]
  refine wpAnyZ_take [9, 10, 11, 12, 13, 14] 8 (.pointer (some ⟨gw, 0, none⟩)) rfl (by kernel_rfl) (fun _ _ _ h => h) SS rfl (by intro wz hz; go_simp) ?_
  try simp only [zc1, zc2, zc3, Act.put, zc4, zc5, zc6]
  refine wpAnyZ_take [10, 11, 12, 13, 14] 9 (.pointer (some ⟨gw, 0, none⟩)) rfl (by kernel_rfl) (fun _ _ _ h => h) SS rfl (by intro wz hz; go_simp) ?_
  try simp only [zc1, zc2, zc3, Act.put, zc4, zc5, zc6]
  refine wpAnyZ_take [11, 12, 13, 14] 10 (.pointer (some ⟨gw, 2, none⟩)) rfl (by kernel_rfl) (fun _ _ _ h => h) SS rfl (by intro wz hz; go_simp) ?_
  try simp only [zc1, zc2, zc3, Act.put, zc4, zc5, zc6]
  refine wpAnyZ_take [12, 13, 14] 11 (.slice a n c) rfl (by kernel_rfl) (fun _ _ _ h => h) SS rfl (by intro wz hz; have z : wz.cell? ⟨gw, 2, none⟩ = some (.slice a n c) := hz.cell 2 (by show 2 < 14; decide); go_simp) ?_
  try simp only [zc1, zc2, zc3, Act.put, zc4, zc5, zc6]
  generalize w.drew = w2 at *
  refine wpAnyZ_oneB 12 rfl (by kernel_rfl) (fun KK hKK => ?_)
  go_simp
  go_at_call 19
  refine (dsum_any a n c L w2 hd.A.rd).mono ?_
  rintro e w2' ⟨rfl, hw⟩
  subst hw
  dsimp only
  refine hKK _ _ (fun _ => SS) ?_
  try simp only [zc1, zc2, zc3, Act.put, zc4, zc5, zc6]
  obtain ⟨sm, hsm⟩ : ∃ sm, smT L n % 4294967296 = sm := ⟨_, rfl⟩
  rw [hsm]
  refine wpAnyZ_take [14] 13 (.agg #[.int .i64 3, .int .i64 0, .string ⟨#[]⟩, .int .i64 (n : Int), .int .i64 (sm : Int), .int .i64 0, .slice none 0 0, .slice none 0 0, .int .i64 0, .int .i64 0]) rfl (by kernel_rfl) (fun _ _ _ h => h) SS rfl (by intro wz hz; go_simp) ?_
  try simp only [zc1, zc2, zc3, Act.put, zc4, zc5, zc6]
  refine wpAnyZ_oneB 14 rfl (by kernel_rfl) (fun KK hKK => ?_)
  go_simp
  go_at_call 97
  refine (send_any wB w2' gw id nm mo bu st fi at' ti pa tr li a n c L q m d G na nn nc xs hd (xEnd 0 n sm) (Ans.nil _ _) (OwGi.nil _ _) hn (fun z e => by rcases e with e | e <;> cases e)).mono ?_
  rintro e w3 ⟨rfl, ⟨na3, nc3, h3⟩, hfr⟩
  dsimp only
  refine hKK _ _ (fun h => absurd (by decide) h) ?_
  try simp only [zc1, zc2, zc3, Act.put, zc4, zc5, zc6]
  refine wpAnyZ_doneB (by kernel_rfl) ?_ _
  first | go_end0 | refine bodyPost_ret (results_none rfl _ _ _) rfl ?_
  exact ⟨rfl, ⟨na3, nc3, h3⟩, fun g9 t9 cs9 hb h1 h2 => hfr g9 t9 cs9 (hb.keep Gd (by simp)) h1 h2⟩

set_option maxHeartbeats 16000000 in
theorem sp_t2 {u1 u2 u4 u6 u7 u8 u9 u10 u11 u12 u13 u14 u15 u16 u17 u18 u19 u20 u21 u22 u23 u24 u25 u26 u27 u28 u29 u30 u31 u32 : Value} (P : Ending → World → Prop) (wB w : World) (gw : Nat) (id : Int) (nm : ByteArray) (mo bu st : Int) (fi : Bool) (at' ti pa tr li : Int) (a : Option Addr) (n c : Nat) (L : List Nat) (q : Option Addr) (m d : Nat) (G : List (Int × Int)) (na : Option Addr) (nn nc : Nat) (xs : List Nx) (h : GW wB w gw id nm mo bu st fi at' ti pa tr li a n c L q m d G na nn nc xs) (g3 x y en : Nat) (b3 : BxS w g3 82 #[.int .i64 (x : Int), .int .i64 (y : Int)]) (hx : x < en) (he : en ≤ n) (hn9 : n ≤ 65536) (hn : nn ≤ 100000)
    (hP : ∀ w' na' nc' a' c', GW wB w' gw id nm mo bu st fi at' ti pa tr li a n c L q m d G na' (nn + 1) nc' (xs ++ [xPie id x ((L.drop x).take (en - x)) a' c']) → FrO gw na nn nc w w' → P (.returned (.int .i64 (en : Int))) w') :
    Code.wp Try.prog (tailR 2 (Try.f115.body.getD .skip)) (bodyPost Try.prog Try.f115 P) (Act.mk (List.toArray ((.pointer (some ⟨gw, 0, none⟩)) :: u1 :: u2 :: (.pointer (some ⟨g3, 0, none⟩)) :: u4 :: (.int .i64 (en : Int)) :: u6 :: u7 :: u8 :: u9 :: u10 :: u11 :: u12 :: u13 :: u14 :: u15 :: u16 :: u17 :: u18 :: u19 :: u20 :: u21 :: u22 :: u23 :: u24 :: u25 :: u26 :: u27 :: u28 :: u29 :: u30 :: u31 :: u32 :: [])) []) w := by
  conv => enter [2]; whnf
  have HP : Hid _ := hP
  clear hP
  have hA0 := h.A
  obtain ⟨ga, rfl⟩ : ∃ ga, a = some ⟨ga, 0, none⟩ := by
    rcases hA0.cases with ⟨h1, h2, h3⟩ | ⟨g, h1, _⟩
    · omega
    · exact ⟨g, h1⟩
  have hle := hA0.rd.le
  obtain ⟨D, hDD⟩ : ∃ D, (L.drop x).take (en - x) = D := ⟨_, rfl⟩
  have hDl : en - x = D.length := by rw [← hDD, List.length_take, List.length_drop, hA0.len]; omega
  have hDb : D.length ≤ 65536 := by omega
  have HDD : Hid _ := hDD
  clear hDD
  refine wp_seq_k fun K1 hK1 => ?_
  have HK1 : Hid _ := hK1
  clear hK1
  have Gd := grown_drew w none
  have hd := h.keepN Gd
  have SS : BxS w.drew gw 100 #[.int .i64 id, .string nm, .slice (some ⟨ga, 0, none⟩) n c, .int .i64 mo, .int .i64 bu, .int .i64 st, .bool fi, .int .i64 at', .slice q m d, .int .i64 ti, .int .i64 pa, .int .i64 tr, .int .i64 li, .slice na nn nc] ∧ BxS w.drew g3 82 #[.int .i64 (x : Int), .int .i64 (y : Int)] := ⟨hd.bx, b3.keep Gd (by simp)⟩
  refine wp_regionL (fun wz => BxS wz gw 100 #[.int .i64 id, .string nm, .slice (some ⟨ga, 0, none⟩) n c, .int .i64 mo, .int .i64 bu, .int .i64 st, .bool fi, .int .i64 at', .slice q m d, .int .i64 ti, .int .i64 pa, .int .i64 tr, .int .i64 li, .slice na nn nc] ∧ BxS wz g3 82 #[.int .i64 (x : Int), .int .i64 (y : Int)]) [14] #[false, false, false, false, false, false, false, false, false, false, false, false, false, false, false] rfl (by kernel_rfl) ?_
  refine wpAnyZ_take [14] 0 (.pointer (some ⟨gw, 0, none⟩)) rfl (by kernel_rfl) (fun _ _ _ h => h) SS rfl (by intro wz hz; go_simp) ?_
  try simp only [zc1, zc2, zc3, Act.put, zc4, zc5, zc6]
  refine wpAnyZ_take [2, 13, 14] 1 (.pointer (some ⟨g3, 0, none⟩)) rfl (by kernel_rfl) (fun _ _ _ h => h) SS rfl (by intro wz hz; go_simp) ?_
  try simp only [zc1, zc2, zc3, Act.put, zc4, zc5, zc6]
  refine wpAnyZ_take [13, 14] 2 (.int .i64 (x : Int)) rfl (by kernel_rfl) (fun _ _ _ h => h) SS rfl (by rintro wz ⟨hz, hz2⟩; obtain ⟨z0, z1⟩ := hz2.cell2; go_simp) ?_
  try simp only [zc1, zc2, zc3, Act.put, zc4, zc5, zc6]
  refine wpAnyZ_take [4, 5, 6, 7, 11, 12, 13, 14] 3 (.pointer (some ⟨gw, 0, none⟩)) rfl (by kernel_rfl) (fun _ _ _ h => h) SS rfl (by intro wz hz; go_simp) ?_
  try simp only [zc1, zc2, zc3, Act.put, zc4, zc5, zc6]
  refine wpAnyZ_take [5, 6, 7, 11, 12, 13, 14] 4 (.pointer (some ⟨gw, 0, none⟩)) rfl (by kernel_rfl) (fun _ _ _ h => h) SS rfl (by intro wz hz; go_simp) ?_
  try simp only [zc1, zc2, zc3, Act.put, zc4, zc5, zc6]
  refine wpAnyZ_take [6, 7, 11, 12, 13, 14] 5 (.pointer (some ⟨gw, 0, none⟩)) rfl (by kernel_rfl) (fun _ _ _ h => h) SS rfl (by intro wz hz; go_simp) ?_
  try simp only [zc1, zc2, zc3, Act.put, zc4, zc5, zc6]
  refine wpAnyZ_take [7, 11, 12, 13, 14] 6 (.pointer (some ⟨gw, 2, none⟩)) rfl (by kernel_rfl) (fun _ _ _ h => h) SS rfl (by intro wz hz; go_simp) ?_
  try simp only [zc1, zc2, zc3, Act.put, zc4, zc5, zc6]
  refine wpAnyZ_take [11, 12, 13, 14] 7 (.slice (some ⟨ga, 0, none⟩) n c) rfl (by kernel_rfl) (fun _ _ _ h => h) SS rfl (by rintro wz ⟨hz, hz2⟩; have z : wz.cell? ⟨gw, 2, none⟩ = some (.slice (some ⟨ga, 0, none⟩) n c) := hz.cell 2 (by show 2 < 14; decide); go_simp) ?_
  try simp only [zc1, zc2, zc3, Act.put, zc4, zc5, zc6]
  refine wpAnyZ_take [9, 11, 12, 13, 14] 8 (.pointer (some ⟨g3, 0, none⟩)) rfl (by kernel_rfl) (fun _ _ _ h => h) SS rfl (by intro wz hz; go_simp) ?_
  try simp only [zc1, zc2, zc3, Act.put, zc4, zc5, zc6]
  refine wpAnyZ_take [11, 12, 13, 14] 9 (.int .i64 (x : Int)) rfl (by kernel_rfl) (fun _ _ _ h => h) SS rfl (by rintro wz ⟨hz, hz2⟩; obtain ⟨z0, z1⟩ := hz2.cell2; go_simp) ?_
  try simp only [zc1, zc2, zc3, Act.put, zc4, zc5, zc6]
  refine wpAnyZ_take [11, 12, 13, 14] 10 (.int .i64 (en : Int)) rfl (by kernel_rfl) (fun _ _ _ h => h) SS rfl (by intro wz hz; go_simp) ?_
  try simp only [zc1, zc2, zc3, Act.put, zc4, zc5, zc6]
  have k1 : ¬ c = x := by omega
  have k2 : (x : Int) ≤ (en : Int) := by omega
  have k3 : (en : Int) ≤ (c : Int) := by omega
  have k4 : x ≤ en := by omega
  have k5 : en ≤ c := by omega
  refine wpAnyZ_take [12, 13, 14] 11 (.slice (some ⟨ga, x, none⟩) D.length (c - x)) rfl (by kernel_rfl) (fun _ _ _ h => h) SS rfl (by intro wz hz; go_simp) ?_
  try simp only [zc1, zc2, zc3, Act.put, zc4, zc5, zc6]
  clear k1 k2 k3 k4 k5
  generalize w.drew = w2 at *
  refine wpAnyZ_oneB 12 rfl (by kernel_rfl) (fun KK hKK => ?_)
  go_simp
  go_at_call 57
  have hRm : Rd w2 (some ⟨ga, x, none⟩) D.length (c - x) D := by
    have := hd.A.rd.mid hx he
    rw [HDD.out, Nat.zero_add] at this
    exact this
  refine (dclone_any _ _ _ D w2 hRm (by omega)).mono ?_
  rintro e w4 ⟨a4, c4, rfl, hA4, y4⟩
  dsimp only
  refine hKK _ _ (fun _ => ⟨SS.1.keep y4 (by simp), SS.2.keep y4 (by simp)⟩) ?_
  try simp only [zc1, zc2, zc3, Act.put, zc4, zc5, zc6]
  have SS4 : BxS w4 gw 100 #[.int .i64 id, .string nm, .slice (some ⟨ga, 0, none⟩) n c, .int .i64 mo, .int .i64 bu, .int .i64 st, .bool fi, .int .i64 at', .slice q m d, .int .i64 ti, .int .i64 pa, .int .i64 tr, .int .i64 li, .slice na nn nc] ∧ BxS w4 g3 82 #[.int .i64 (x : Int), .int .i64 (y : Int)] := ⟨SS.1.keep y4 (by simp), SS.2.keep y4 (by simp)⟩
  have h4 := hd.keepN y4
  refine wpAnyZ_take [14] 13 (.agg #[.int .i64 2, .int .i64 0, .string ⟨#[]⟩, .int .i64 0, .int .i64 0, .int .i64 (x : Int), .slice a4 D.length c4, .slice none 0 0, .int .i64 0, .int .i64 0]) rfl (by kernel_rfl) (fun _ _ _ h => h) SS4 rfl (by intro wz hz; go_simp) ?_
  try simp only [zc1, zc2, zc3, Act.put, zc4, zc5, zc6]
  refine wpAnyZ_oneB 14 rfl (by kernel_rfl) (fun KK hKK => ?_)
  go_simp
  go_at_call 97
  refine (send_any wB w4 gw id nm mo bu st fi at' ti pa tr li (some ⟨ga, 0, none⟩) n c L q m d G na nn nc xs h4 (xPie 0 x D a4 c4) (hA4.wide hd.g.size) (OwGi.nil _ _) hn (fun z e => by rcases e with e | e; exact ⟨fun e2 => (by have h1 := hA4.new z e; have h2 := hd.N.lt e2; omega), fun e2 => (by have h1 := hA4.new z e; have h2 := own_ltN hd.A.own e2; omega), fun e2 => (by have h1 := hA4.new z e; have h2 := hd.O.lt e2; omega)⟩; cases e)).mono ?_
  rintro e w3 ⟨rfl, ⟨na3, nc3, h3⟩, hfr⟩
  dsimp only
  refine hKK _ _ (fun h => absurd (by decide) h) ?_
  try simp only [zc1, zc2, zc3, Act.put, zc4, zc5, zc6]
  refine wpAnyZ_doneB (by kernel_rfl) ?_ _
  refine HK1.out _ _ ?_
  clear HK1
  go_wp2
  refine HP.out w3 na3 nc3 a4 c4 ?_ ?_
  · rw [HDD.out]; exact h3
  · exact fun g9 t9 cs9 hb h1 h2 => hfr g9 t9 cs9 ((hb.keep Gd (by simp)).keep y4 (by simp)) h1 h2

set_option maxHeartbeats 16000000 in
theorem sendPiece_any (wB w : World) (gw : Nat) (id : Int) (nm : ByteArray) (mo bu st : Int) (fi : Bool) (at' ti pa tr li : Int) (a : Option Addr) (n c : Nat) (L : List Nat) (q : Option Addr) (m d : Nat) (G : List (Int × Int)) (na : Option Addr) (nn nc : Nat) (xs : List Nx) (h : GW wB w gw id nm mo bu st fi at' ti pa tr li a n c L q m d G na nn nc xs) (x y k en : Nat) (hk : mo = (k : Int)) (hk1 : 1 ≤ k) (hk2 : k ≤ 1024) (hxy : x < y) (hy : y ≤ n) (hn9 : n ≤ 65536) (hn : nn ≤ 100000) (hen : en = if x + k ≤ y then x + k else y) :
    Calls Try.prog 115 #[.pointer (some ⟨gw, 0, none⟩), .agg #[.int .i64 (x : Int), .int .i64 (y : Int)]] w fun e w' => e = .returned (.int .i64 (en : Int)) ∧ (∃ na' nc' a' c', GW wB w' gw id nm mo bu st fi at' ti pa tr li a n c L q m d G na' (nn + 1) nc' (xs ++ [xPie id x ((L.drop x).take (en - x)) a' c'])) ∧ FrO gw na nn nc w w' := by
  subst hk
  have b3 := BxS.new w 82 #[.int .i64 (x : Int), .int .i64 (y : Int)]
  have g3' := World.grownBy_alloc w (.cells #[.int .i64 (x : Int), .int .i64 (y : Int)] 82) none
  generalize hw1 : w.alloc (.cells #[.int .i64 (x : Int), .int .i64 (y : Int)] 82) = w1 at b3 g3'
  have h1 := h.keepN g3'
  obtain ⟨s, hs⟩ : ∃ s, x + k = s := ⟨_, rfl⟩
  rw [hs] at hen
  have hws : IntKind.i64.wrap ((x : Int) + (k : Int)) = (s : Int) := by rw [← hs]; exact wrap_i64_in _ (by omega) (by omega)
  have HS : Hid _ := hs
  clear hs
  go_enter Try.func115, Try.ntmps115
  refine wp_seq_k fun K1 hK1 => ?_
  have HK1 : Hid _ := hK1
  clear hK1
  go_wp2
  refine HK1.out _ _ ?_
  clear HK1
  clear hw1
  obtain ⟨g3, hg3⟩ : ∃ g3, w.heap.size = g3 := ⟨_, rfl⟩
  rw [hg3] at b3 ⊢
  have Gd := grown_drew w1 none
  have hd := h1.keepN Gd
  have SS : BxS w1.drew gw 100 #[.int .i64 id, .string nm, .slice a n c, .int .i64 (k : Int), .int .i64 bu, .int .i64 st, .bool fi, .int .i64 at', .slice q m d, .int .i64 ti, .int .i64 pa, .int .i64 tr, .int .i64 li, .slice na nn nc] ∧ BxS w1.drew g3 82 #[.int .i64 (x : Int), .int .i64 (y : Int)] := ⟨hd.bx, b3.keep Gd (by simp)⟩
  refine wp_seq_k fun K2 hK2 => ?_
  have HK2 : Hid _ := hK2
  clear hK2
  by_cases hsy : s ≤ y
  · rw [if_pos hsy] at hen
    subst hen
    have m1 : (en : Int) ≤ (y : Int) := by omega
    have m2 : ¬ (y : Int) < (en : Int) := by omega
    refine wp_regionL (fun wz => BxS wz gw 100 #[.int .i64 id, .string nm, .slice a n c, .int .i64 (k : Int), .int .i64 bu, .int .i64 st, .bool fi, .int .i64 at', .slice q m d, .int .i64 ti, .int .i64 pa, .int .i64 tr, .int .i64 li, .slice na nn nc] ∧ BxS wz g3 82 #[.int .i64 (x : Int), .int .i64 (y : Int)]) [] #[false, false, false, false, false, false, false, false, false, false, false, false] rfl (by kernel_rfl) ?_
    refine wpAnyZ_take [] 0 (.pointer (some ⟨g3, 0, none⟩)) rfl (by kernel_rfl) (fun _ _ _ h => h) SS rfl (by intro wz hz; go_simp) ?_
    try simp only [zc1, zc2, zc3, Act.put, zc4, zc5, zc6]
    refine wpAnyZ_take [] 1 (.int .i64 (x : Int)) rfl (by kernel_rfl) (fun _ _ _ h => h) SS rfl (by rintro wz ⟨hz, hz2⟩; obtain ⟨z0, z1⟩ := hz2.cell2; go_simp) ?_
    try simp only [zc1, zc2, zc3, Act.put, zc4, zc5, zc6]
    refine wpAnyZ_take [] 2 (.pointer (some ⟨gw, 0, none⟩)) rfl (by kernel_rfl) (fun _ _ _ h => h) SS rfl (by intro wz hz; go_simp) ?_
    try simp only [zc1, zc2, zc3, Act.put, zc4, zc5, zc6]
    refine wpAnyZ_take [] 3 (.pointer (some ⟨gw, 0, none⟩)) rfl (by kernel_rfl) (fun _ _ _ h => h) SS rfl (by intro wz hz; go_simp) ?_
    try simp only [zc1, zc2, zc3, Act.put, zc4, zc5, zc6]
    refine wpAnyZ_take [] 4 (.pointer (some ⟨gw, 0, none⟩)) rfl (by kernel_rfl) (fun _ _ _ h => h) SS rfl (by intro wz hz; go_simp) ?_
    try simp only [zc1, zc2, zc3, Act.put, zc4, zc5, zc6]
    refine wpAnyZ_take [] 5 (.pointer (some ⟨gw, 3, none⟩)) rfl (by kernel_rfl) (fun _ _ _ h => h) SS rfl (by intro wz hz; go_simp) ?_
    try simp only [zc1, zc2, zc3, Act.put, zc4, zc5, zc6]
    refine wpAnyZ_take [] 6 (.int .i64 (k : Int)) rfl (by kernel_rfl) (fun _ _ _ h => h) SS rfl (by rintro wz ⟨hz, hz2⟩; have z : wz.cell? ⟨gw, 3, none⟩ = some (.int .i64 (k : Int)) := hz.cell 3 (by show 3 < 14; decide); go_simp) ?_
    try simp only [zc1, zc2, zc3, Act.put, zc4, zc5, zc6]
    refine wpAnyZ_take [] 7 (.int .i64 (en : Int)) rfl (by kernel_rfl) (fun _ _ _ h => h) SS rfl (by intro wz hz; go_simp) ?_
    try simp only [zc1, zc2, zc3, Act.put, zc4, zc5, zc6]
    refine wpAnyZ_take [] 8 (.pointer (some ⟨g3, 1, none⟩)) rfl (by kernel_rfl) (fun _ _ _ h => h) SS rfl (by intro wz hz; go_simp) ?_
    try simp only [zc1, zc2, zc3, Act.put, zc4, zc5, zc6]
    refine wpAnyZ_take [] 9 (.int .i64 (y : Int)) rfl (by kernel_rfl) (fun _ _ _ h => h) SS rfl (by rintro wz ⟨hz, hz2⟩; obtain ⟨z0, z1⟩ := hz2.cell2; go_simp) ?_
    try simp only [zc1, zc2, zc3, Act.put, zc4, zc5, zc6]
    refine wpAnyZ_take [] 10 (.int .i64 (en : Int)) rfl (by kernel_rfl) (fun _ _ _ h => h) SS rfl (by intro wz hz; go_simp) ?_
    try simp only [zc1, zc2, zc3, Act.put, zc4, zc5, zc6]
    refine wpAnyZ_take [] 11 (.int .i64 (en : Int)) rfl (by kernel_rfl) (fun _ _ _ h => h) SS rfl (by intro wz hz; go_simp) ?_
    try simp only [zc1, zc2, zc3, Act.put, zc4, zc5, zc6]
    refine wpAnyZ_doneB (by kernel_rfl) ?_ _
    refine HK2.out _ _ ?_
    clear HK2
    refine sp_t2 _ wB w1.drew gw id nm (k : Int) bu st fi at' ti pa tr li a n c L q m d G na nn nc xs hd g3 x y en SS.2 (by have := HS.out; omega) (by omega) hn9 hn ?_
    intro w' na' nc' a' c' h9 f9
    exact ⟨rfl, ⟨na', nc', a', c', h9⟩, fun g9 t9 cs9 hb k1 k2 => f9 g9 t9 cs9 ((hb.keep g3' (by simp)).keep Gd (by simp)) k1 k2⟩
  · rw [if_neg hsy] at hen
    subst hen
    have m1 : ¬ (s : Int) ≤ (en : Int) := by omega
    have m2 : (en : Int) < (s : Int) := by omega
    refine wp_regionL (fun wz => BxS wz gw 100 #[.int .i64 id, .string nm, .slice a n c, .int .i64 (k : Int), .int .i64 bu, .int .i64 st, .bool fi, .int .i64 at', .slice q m d, .int .i64 ti, .int .i64 pa, .int .i64 tr, .int .i64 li, .slice na nn nc] ∧ BxS wz g3 82 #[.int .i64 (x : Int), .int .i64 (en : Int)]) [] #[false, false, false, false, false, false, false, false, false, false, false, false] rfl (by kernel_rfl) ?_
    refine wpAnyZ_take [] 0 (.pointer (some ⟨g3, 0, none⟩)) rfl (by kernel_rfl) (fun _ _ _ h => h) SS rfl (by intro wz hz; go_simp) ?_
    try simp only [zc1, zc2, zc3, Act.put, zc4, zc5, zc6]
    refine wpAnyZ_take [] 1 (.int .i64 (x : Int)) rfl (by kernel_rfl) (fun _ _ _ h => h) SS rfl (by rintro wz ⟨hz, hz2⟩; obtain ⟨z0, z1⟩ := hz2.cell2; go_simp) ?_
    try simp only [zc1, zc2, zc3, Act.put, zc4, zc5, zc6]
    refine wpAnyZ_take [] 2 (.pointer (some ⟨gw, 0, none⟩)) rfl (by kernel_rfl) (fun _ _ _ h => h) SS rfl (by intro wz hz; go_simp) ?_
    try simp only [zc1, zc2, zc3, Act.put, zc4, zc5, zc6]
    refine wpAnyZ_take [] 3 (.pointer (some ⟨gw, 0, none⟩)) rfl (by kernel_rfl) (fun _ _ _ h => h) SS rfl (by intro wz hz; go_simp) ?_
    try simp only [zc1, zc2, zc3, Act.put, zc4, zc5, zc6]
    refine wpAnyZ_take [] 4 (.pointer (some ⟨gw, 0, none⟩)) rfl (by kernel_rfl) (fun _ _ _ h => h) SS rfl (by intro wz hz; go_simp) ?_
    try simp only [zc1, zc2, zc3, Act.put, zc4, zc5, zc6]
    refine wpAnyZ_take [] 5 (.pointer (some ⟨gw, 3, none⟩)) rfl (by kernel_rfl) (fun _ _ _ h => h) SS rfl (by intro wz hz; go_simp) ?_
    try simp only [zc1, zc2, zc3, Act.put, zc4, zc5, zc6]
    refine wpAnyZ_take [] 6 (.int .i64 (k : Int)) rfl (by kernel_rfl) (fun _ _ _ h => h) SS rfl (by rintro wz ⟨hz, hz2⟩; have z : wz.cell? ⟨gw, 3, none⟩ = some (.int .i64 (k : Int)) := hz.cell 3 (by show 3 < 14; decide); go_simp) ?_
    try simp only [zc1, zc2, zc3, Act.put, zc4, zc5, zc6]
    refine wpAnyZ_take [] 7 (.int .i64 (s : Int)) rfl (by kernel_rfl) (fun _ _ _ h => h) SS rfl (by intro wz hz; go_simp) ?_
    try simp only [zc1, zc2, zc3, Act.put, zc4, zc5, zc6]
    refine wpAnyZ_take [] 8 (.pointer (some ⟨g3, 1, none⟩)) rfl (by kernel_rfl) (fun _ _ _ h => h) SS rfl (by intro wz hz; go_simp) ?_
    try simp only [zc1, zc2, zc3, Act.put, zc4, zc5, zc6]
    refine wpAnyZ_take [] 9 (.int .i64 (en : Int)) rfl (by kernel_rfl) (fun _ _ _ h => h) SS rfl (by rintro wz ⟨hz, hz2⟩; obtain ⟨z0, z1⟩ := hz2.cell2; go_simp) ?_
    try simp only [zc1, zc2, zc3, Act.put, zc4, zc5, zc6]
    refine wpAnyZ_take [] 10 (.int .i64 (en : Int)) rfl (by kernel_rfl) (fun _ _ _ h => h) SS rfl (by intro wz hz; go_simp) ?_
    try simp only [zc1, zc2, zc3, Act.put, zc4, zc5, zc6]
    refine wpAnyZ_take [] 11 (.int .i64 (en : Int)) rfl (by kernel_rfl) (fun _ _ _ h => h) SS rfl (by intro wz hz; go_simp) ?_
    try simp only [zc1, zc2, zc3, Act.put, zc4, zc5, zc6]
    refine wpAnyZ_doneB (by kernel_rfl) ?_ _
    refine HK2.out _ _ ?_
    clear HK2
    refine sp_t2 _ wB w1.drew gw id nm (k : Int) bu st fi at' ti pa tr li a n c L q m d G na nn nc xs hd g3 x en en SS.2 hxy hy hn9 hn ?_
    intro w' na' nc' a' c' h9 f9
    exact ⟨rfl, ⟨na', nc', a', c', h9⟩, fun g9 t9 cs9 hb k1 k2 => f9 g9 t9 cs9 ((hb.keep g3' (by simp)).keep Gd (by simp)) k1 k2⟩
end
end Go.Proofs.Ytnimehkfnpepfaa
