import Derived.Test.YtncpignmijgghaaTRef
import Derived.Deep.RegionLawGrows
namespace Go.Proofs.Ytncpignmijgghaa
open Go.RowKit
set_option maxRecDepth 100000
set_option linter.unusedVariables false
set_option linter.unusedSimpArgs false

theorem step_append_fits {P : Program} {ops : Array Oper} {o : Oper} {a : Act} {w : World} {K : Act → World → Prop} {Q : Exit → Act → World → Prop} {E : Prop}
    (hg : o.guard = none) (s x : Operand) (t : TypeId) (hop : o.op = Op.call { callee := Callee.builtin Builtin.append, args := #[s, x], argTypes := #[t, t] })
    (base : Nat) (e : TypeId) (i : TypeInfo) (size : Nat) (h1 : P.underlying t = some (.slice e)) (h2 : P.info? e = some i) (h4 : i.size = size)
    (g k cap : Nat) (xs : List Value) (hs : a.eval s = .slice (some ⟨g, 0, none⟩) k cap) (hown : w.ownsRow base e size (.slice (some ⟨g, 0, none⟩) k cap) k xs) (ad : Addr) (m c : Nat) (news : List Value) (hx : a.eval x = .slice (some ad) m c) (hn : news.length = m * size)
    (hc : ∀ j u, news[j]? = some u → w.cell? (ad.add j) = some u) (h1c : ∀ u ∈ news, u.oneCell' = true) (b1 : k + m ≤ cap)
    (hK : ∀ w', w'.ownsRow base e size (.slice (some ⟨g, 0, none⟩) (k + m) cap) (k + m) (xs ++ news) → w.grownBy w' (some g) → K (a.put o.dst (.slice (some ⟨g, 0, none⟩) (k + m) cap)) w') :
    if Region.wanted o (yielded ops a.tmps) = true then Oper.wp P o a w K Q else E := by
  have hw : Region.wanted o (yielded ops a.tmps) = true := by simp [Region.wanted, hg]
  rw [if_pos hw]
  obtain ⟨w', hrun, r1, r2⟩ := run_append_fits (P := P) w base t o.type e i size h1 h2 h4 g k cap xs hown ad m c news hn hc h1c b1
  unfold Oper.wp
  simp [execOp, hop, resolve, invoke, builtin, hs, hx, hrun, Result.andThen]
  exact hK w' r1 r2
/-- 'append(v, x...)', v the call's own, x not empty, in a region that draws -/
theorem step_apB (w : World) {ops : Array Oper} {o : Oper} {a : Act} {K : Act → World → Prop} {Q : Exit → Act → World → Prop} {E : Prop} (hg : o.guard = none) (s x : Operand)
    (hop : o.op = Op.call { callee := .builtin .append, args := #[s, x], argTypes := #[38, 38] }) (v : Value) (n : Nat) (xs : List Value) (hs : a.eval s = v)
    (hown : w.ownsRow 0 5 1 v n xs) (ad : Addr) (m c : Nat) (news : List Value) (hx : a.eval x = .slice (some ad) m c) (hn : news.length = m)
    (hc : ∀ j u, news[j]? = some u → w.cell? (ad.add j) = some u) (h1 : ∀ u, u ∈ news → u.oneCell' = true) (hm : 0 < m) (hb : n + m ≤ 140737488355328)
    (hK : ∀ g cap w', (v.ownBlock = some g ∨ w.heap.size ≤ g) → w.grownBy w' v.ownBlock → w'.ownsRow 0 5 1 (.slice (some ⟨g, 0, none⟩) (n + m) cap) (n + m) (xs ++ news) → (∀ g0, v.ownBlock = some g0 → ∀ j u, xs[j]? = some u → w'.cell? ⟨g0, j, none⟩ = some u) →
      K (a.put o.dst (.slice (some ⟨g, 0, none⟩) (n + m) cap)) w') :
    if Region.wanted o (yielded ops a.tmps) = true then Oper.wp Try.prog o a w K Q else E := by
  obtain ⟨i0, hi, hz0, hz1, hz2⟩ := info_parts Try.info_u8
  have grow : ∀ (ao : Option Addr) (cap : Nat), v = .slice ao n cap → (ao = none → n = 0 ∧ cap = 0) → (∀ b, ao = some b → ∀ j u, xs[j]? = some u → w.cell? (b.add j) = some u) → (∀ b, ao = some b → b = ⟨b.block, 0, none⟩) → cap < n + m → if Region.wanted o (yielded ops a.tmps) = true then Oper.wp Try.prog o a w K Q else E := by
    intro ao cap hv hnone hcells hfirst hfull
    refine step_append_grows hg s x 38 hop 5 i0 (.int .u8 0) 1 1 Try.underlying38 hi hz0 hz1 hz2 rfl (by decide) ao n cap xs (by rw [hs, hv]) hnone (by rw [hown.1]) hcells ad m c news hx (by rw [hn, Nat.mul_one]) hc h1 hfull (by unfold maxLen; omega) (by omega) ?_
    intro v' w' hown' hgr
    rcases hown'.2 with ⟨_, h0⟩ | ⟨g, cap', cur, rfl, hge, hrest⟩
    · omega
    · refine hK g cap' w' (.inr hge) (grown_weak hgr _) (own_base hown') (fun g0 hg0 j u hu => ?_)
      subst hv
      cases ao with
      | none => simp [Value.ownBlock] at hg0
      | some b =>
        have hb0 : b.block = g0 := by simpa [Value.ownBlock] using hg0
        have hc0 := hcells b rfl j u hu
        have hz := hfirst b rfl
        rw [hb0] at hz
        rw [hz, addr_add, Nat.zero_add] at hc0
        exact (World.cell?_of_block (w := w) (hgr.block _ (World.block_lt_of_cell? w _ hc0) (by simp))).trans hc0
  rcases hown.2 with ⟨rfl, h0⟩ | ⟨g, cap, cur, rfl, hbase, hh, hle, hmax, hsz, htake⟩
  · subst h0
    exact grow none 0 rfl (fun _ => ⟨rfl, rfl⟩) (fun b hb => by cases hb) (fun b hb => by cases hb) (by omega)
  · by_cases hroom : n + m ≤ cap
    · refine step_append_fits hg s x 38 hop 0 5 i0 1 Try.underlying38 hi hz1 g n cap xs hs hown ad m c news hx (by rw [hn, Nat.mul_one]) hc h1 hroom ?_
      intro w' hown' hgr
      refine hK g cap w' (.inl rfl) hgr hown' (fun g0 hg0 j u hu => ?_)
      have e : g = g0 := Option.some.inj hg0
      subst e
      have hj : j < xs.length := (List.getElem?_eq_some_iff.1 hu).1
      have h2 := hown'.cells (g := g) rfl j u (by rw [List.getElem?_append_left hj]; exact hu)
      rw [addr_add, Nat.zero_add] at h2
      exact h2
    · refine grow (some ⟨g, 0, none⟩) cap rfl (fun h => by cases h) ?_ (fun b hb => by cases hb; rfl) (by omega)
      intro b hb j u hu
      cases hb
      exact hown.cells (g := g) rfl j u hu
/-- 'out = append(out, v)' in a region that draws -/
theorem step_push2 (w0 w : World) {ops : Array Oper} {o : Oper} {a : Act} {K : Act → World → Prop} {Q : Exit → Act → World → Prop} {E : Prop} (hg : o.guard = none) (s x : Operand)
    (hop : o.op = Op.call { callee := .builtin .append, args := #[s, x], argTypes := #[38, 38] }) (ao : Option Addr) (m co v lo : Nat) (r : Option Nat) (D : List Nat) (hs : a.eval s = .slice ao m co)
    (hA : Ans w lo ao m co D) (hG : w0.grownBy w r) (hM : Mine w0 r ao m co) (hlo : lo ≤ w0.heap.size) (hv : v < 256) (hx : a.eval x = .slice (some ⟨w.heap.size, 0, none⟩) 1 1) (hb : m + 1 ≤ 140737488355328)
    (hK : ∀ gx cx w', Ans w' lo (some ⟨gx, 0, none⟩) (m + 1) cx (D ++ [v]) → w0.grownBy w' r → Mine w0 r (some ⟨gx, 0, none⟩) (m + 1) cx → (∀ g0, ao = some ⟨g0, 0, none⟩ → ∀ j, j < m → w'.cell? ⟨g0, j, none⟩ = some (.int .u8 (nth D j : Nat))) → K (a.put o.dst (.slice (some ⟨gx, 0, none⟩) (m + 1) cx)) w') :
    if Region.wanted o (yielded ops a.tmps) = true then Oper.wp Try.prog o a (w.alloc (.cells #[.int .u8 (v : Int)] 5)) K Q else E := by
  refine step_apB _ hg s x hop (.slice ao m co) m (bys D) hs (hA.own.alloc _) ⟨w.heap.size, 0, none⟩ 1 1 [.int .u8 (v : Int)] hx rfl (cell_one w _) (by simp [Value.oneCell']) (by decide) hb ?_
  intro gx cx w2 hgx hgr2 hown2 hold2
  rw [bys_add] at hown2
  have gA := grown_trans hG (World.grownBy_alloc w (.cells #[.int .u8 (v : Int)] 5) r)
  have hG2 := grown_mine gA hgr2 hM
  have hsz := gA.size
  refine hK gx cx w2 ⟨hown2, isB_append hA.byte (isB_single v hv), fun g h => ?_⟩ hG2 (fun g h => ?_) (fun g0 hg0 j hj => hold2 g0 (by rw [hg0]; rfl) j _ (nth_bys D j (by rw [hA.len]; exact hj)))
  · have e : gx = g := Option.some.inj h
    subst e
    rcases hgx with h | h
    · exact hA.new gx h
    · exact Nat.le_trans hlo (Nat.le_trans hsz h)
  · have e : gx = g := Option.some.inj h
    subst e
    rcases hgx with h | h
    · exact hM gx h
    · exact .inr (Nat.le_trans hsz h)
theorem sb_xor (j : Nat) (hj : 8 ≤ j) : ((sbN (j - 1) ^^^ sbN (j - 3)) ^^^ sbN (j - 5)) ^^^ sbN (j - 8) = sbN j := by
  rw [xor4 _ _ _ _ (sbN_lt _) (sbN_lt _) (sbN_lt _) (sbN_lt _)]
  obtain ⟨n, rfl⟩ : ∃ n, j = n + 8 := ⟨j - 8, by omega⟩
  rw [sb_next]
  rfl
/-- what of the row's byte k has been laid on behind i bits -/
def mskN (i k : Nat) : Nat := rowN k / 2 ^ (8 - min 8 (i - 8 * k)) * 2 ^ (8 - min 8 (i - 8 * k))
theorem mskN_zero (k : Nat) : mskN 0 k = 0 := by
  unfold mskN
  have := rowN_lt k
  rw [show 8 - min 8 (0 - 8 * k) = 8 from by omega, Nat.div_eq_of_lt this, Nat.zero_mul]
theorem mskN_all (n k : Nat) (h : k < n) : mskN (8 * n) k = rowN k := by
  unfold mskN
  rw [show 8 - min 8 (8 * n - 8 * k) = 0 from by omega, Nat.pow_zero, Nat.div_one, Nat.mul_one]
theorem mskN_other (k t k' : Nat) (ht : t < 8) (h : k' ≠ k) : mskN (8 * k + t + 1) k' = mskN (8 * k + t) k' := by
  unfold mskN
  rw [show 8 - min 8 (8 * k + t + 1 - 8 * k') = 8 - min 8 (8 * k + t - 8 * k') from by omega]
theorem msk_fact : ∀ x : Nat, x < 256 → ∀ t : Nat, t < 8 → (x / 2 ^ (8 - t) * 2 ^ (8 - t)) ^^^ (x / 2 ^ (7 - t) % 2 * 2 ^ (7 - t)) = x / 2 ^ (7 - t) * 2 ^ (7 - t) := by decide +kernel
theorem mskN_step (k t : Nat) (ht : t < 8) : mskN (8 * k + t) k ^^^ (sbN (8 * k + t) * 2 ^ (7 - t)) = mskN (8 * k + t + 1) k := by
  unfold mskN
  rw [show 8 - min 8 (8 * k + t - 8 * k) = 8 - t from by omega, show 8 - min 8 (8 * k + t + 1 - 8 * k) = 7 - t from by omega, ← row_bit k t ht]
  exact msk_fact (rowN k) (rowN_lt k) t ht
theorem mskN_lt (i k : Nat) : mskN i k < 256 := Nat.lt_of_le_of_lt (Nat.div_mul_le_self _ _) (rowN_lt k)
theorem shl_fact : ∀ x : Nat, x < 2 → ∀ p : Nat, p < 8 → IntKind.u8.wrap ((x : Int) * 2 ^ p) = ((x * 2 ^ p : Nat) : Int) := by decide +kernel
theorem shl_lt : ∀ x : Nat, x < 2 → ∀ p : Nat, p < 8 → x * 2 ^ p < 256 := by decide +kernel
theorem eight_ones (w : World) : Ans (w.alloc (.cells #[.int .u8 1, .int .u8 1, .int .u8 1, .int .u8 1, .int .u8 1, .int .u8 1, .int .u8 1, .int .u8 1] 5)) w.heap.size (some ⟨w.heap.size, 0, none⟩) 8 8 (tab 8 sbN) := by
  have e : tab 8 sbN = [1, 1, 1, 1, 1, 1, 1, 1] := by decide +kernel
  rw [e]
  have hB : Blk (w.alloc (.cells #[.int .u8 1, .int .u8 1, .int .u8 1, .int .u8 1, .int .u8 1, .int .u8 1, .int .u8 1, .int .u8 1] 5)) w.heap.size [1, 1, 1, 1, 1, 1, 1, 1] := heap_alloc_new w _
  have h := hB.ans (n := 8) (lo := w.heap.size) (by intro x hx; simp at hx; omega) (by decide) (by decide) (Nat.le_refl _)
  exact h
end Go.Proofs.Ytncpignmijgghaa
