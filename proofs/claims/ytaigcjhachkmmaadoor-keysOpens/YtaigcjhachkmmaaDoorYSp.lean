import Derived.Test.YtaigcjhachkmmaaDoorYBk
import Derived.Test.YtaigcjhachkmmaaDoorYEr
namespace Go.Proofs.YtaigcjhachkmmaaDoor
open Go.RowKit
set_option maxRecDepth 100000
set_option linter.unusedVariables false
set_option linter.unusedSimpArgs false
/-! a whole array of bytes, sliced -/
theorem KRow.rd {w : World} {g ty n : Nat} {f : Nat → Nat} (h : KRow .u8 w g ty n f) (hn : n ≤ 1000) (hb : ∀ i, f i < 256) : Rd w (some ⟨g, 0, none⟩) n n ((List.range n).map f) := by
  refine ⟨by simp, Nat.le_refl _, by unfold maxLen; omega, (fun h => by cases h), ?_, fun h0 => ⟨g, 0, rfl, h.lt, fun i hi => ?_⟩⟩
  · intro y hy
    obtain ⟨i, _, rfl⟩ := List.mem_map.1 hy
    exact hb i
  · rw [Nat.zero_add, h.cell i hi]
    unfold nth
    rw [List.getD_eq_getElem?_getD, List.getElem?_map, List.getElem?_range hi]; rfl
/-- 'append(v, x...)' of bytes, v a whole array without room -/
theorem wpList_apK (w : World) {ops : Array Oper} {rest : List Oper} {o : Oper} {a : Act} {Q : Exit → Act → World → Prop} (hg : o.guard = none) (s x : Operand)
    (hop : o.op = Op.call { callee := .builtin .append, args := #[s, x], argTypes := #[25, 25] }) (g n : Nat) (ty : TypeId) (F : Nat → Nat) (hs : a.eval s = .slice (some ⟨g, 0, none⟩) n n)
    (hown : KRow .u8 w g ty n F) (ad : Addr) (m c : Nat) (news : List Value) (hx : a.eval x = .slice (some ad) m c) (hn : news.length = m)
    (hc : ∀ j u, news[j]? = some u → w.cell? (ad.add j) = some u) (h1 : ∀ u, u ∈ news → u.oneCell' = true) (hm : 0 < m) (hb : n + m ≤ 140737488355000)
    (hK : ∀ g' cap w', w.heap.size ≤ g' → w.grownBy w' none → w'.ownsRow 0 5 1 (.slice (some ⟨g', 0, none⟩) (n + m) cap) (n + m) (bys ((List.range n).map F) ++ news) →
      wpList Tryd.prog ops Q rest (a.put o.dst (.slice (some ⟨g', 0, none⟩) (n + m) cap)) w') :
    wpList Tryd.prog ops Q (o :: rest) a w := by
  obtain ⟨i0, hi, hz0, hz1, hz2⟩ := info_parts Tryd.info_u8
  refine wpList_append_grows w hg s x 25 hop 5 i0 (.int .u8 0) 1 1 Tryd.underlying25 hi hz0 hz1 hz2 rfl (by decide) (some ⟨g, 0, none⟩) n n (bys ((List.range n).map F)) hs (fun h => by cases h) (by simp [bys]) ?_ ad m c news hx (by rw [hn, Nat.mul_one]) hc h1 (by omega) (by unfold maxLen; omega) (by omega) ?_
  · intro b e j u hu
    cases e
    have hj : j < n := by
      have := (List.getElem?_eq_some_iff.1 hu).1
      simpa [bys] using this
    rw [nth_bys _ j (by simpa using hj)] at hu
    rw [← hu, addr_add, hown.cell (0 + j) (by omega)]
    unfold nth
    rw [List.getD_eq_getElem?_getD, List.getElem?_map, List.getElem?_range hj, Nat.zero_add]; rfl
  · intro v' w' hown' hgr
    rcases hown'.2 with ⟨_, h0⟩ | ⟨g', cap', cur, rfl, hge, hrest⟩
    · omega
    · exact hK g' cap' w' hge hgr (own_base hown')
set_option maxHeartbeats 1000000 in
theorem spoilK_any (g n : Nat) (ty : TypeId) (f : Nat → Nat) (w : World) (h : KRow .u8 w g ty n f) (hb : ∀ i, f i < 256) (hn : n ≤ 1000) (h0 : 0 < n) :
    Calls Tryd.prog 47 #[.slice (some ⟨g, 0, none⟩) n n] w fun e w' => e = .returned (.tuple #[]) ∧ w.grownBy w' (some g) := by
  go_enter Tryd.func47, Tryd.ntmps47
  go_wp2
  go_loopw [2] (fun i wr => ∃ k : Nat, k ≤ n ∧ i = .int .i64 k ∧ w.grownBy wr (some g) ∧ ∃ F, KRow .u8 wr g ty n F ∧ ∀ i, F i < 256) (fun i _ => n - (intOf i).toNat)
  case atStart => exact ⟨0, by omega, rfl, World.grownBy.refl _ _, f, h, hb⟩
  case round =>
    obtain ⟨k, hk, rfl, hgr, F, hK, hF⟩ := hrel
    by_cases hlt : k < n
    · have hc := hK.cell k hlt
      have hf := hK.free k
      have hx : bits .xor .u8 (F k : Nat) 90 = ((F k ^^^ 90 : Nat) : Int) := u8_xor_nat (F k) 90 (hF k) (by decide)
      have R := hK.set k (F k ^^^ 90)
      have hki : (k : Int) < (n : Int) := by omega
      have HB : Hid (∀ i, updF F k (F k ^^^ 90) i < 256) := fun i => by
        unfold updF; split
        · exact Nat.xor_lt_two_pow (n := 8) (hF k) (by decide)
        · exact hF i
      clear hF hK
      go_wp2
      go_roundw
      case rel => exact ⟨k + 1, by omega, by go_num, grown_trans hgr (grown_set _ _ _ _), _, R, HB.out⟩
      case measure => simp [intOf]; omega
    · obtain rfl : k = n := by omega
      have hKa := hK.keep (World.grownBy_alloc wr (.cells #[.int .u8 90, .int .u8 90] 5) none)
      go_wp2_with (at_builtin; refine wpList_apK _ rfl _ _ rfl g k ty F rfl hKa ⟨wr.heap.size, 0, none⟩ 2 2 [.int .u8 90, .int .u8 90] rfl rfl (two_cells wr) (by simp [Value.oneCell']) (by decide) (by omega) ?_; intro g' cap' w1 hge hgr1 hown1; obtain ⟨u1, hc1⟩ := own_head hown1 (by omega); have hf1 := hown1.frozenAt 0)
      go_end0
      refine ⟨rfl, grown_new (grown_trans hgr (grown_weak (grown_trans (World.grownBy_alloc _ _ _) hgr1) _)) (grown_set _ _ _ _) (.inr ?_)⟩
      have := hgr.size
      simp at hge
      omega
set_option maxHeartbeats 1000000 in
theorem twiceK_any (g n : Nat) (ty : TypeId) (f : Nat → Nat) (b c : Option Addr) (m k cap' cap'' : Nat) (w : World) (ha : KRow .u8 w g ty n f) (hf : ∀ i, f i < 256) (hn : n ≤ 1000) (h0 : 0 < n) (hb : Rd w b m cap' ((List.range n).map f)) (hc : Rd w c k cap'' ((List.range n).map f))
    (hab : ∀ g' off, b = some ⟨g', off, none⟩ → some g' ≠ some g) (hac : ∀ g' off, c = some ⟨g', off, none⟩ → some g' ≠ some g) :
    Calls Tryd.prog 31 #[.slice (some ⟨g, 0, none⟩) n n, .slice b m cap', .slice c k cap''] w fun e w' => e = .returned (.bool true) ∧ w.grownBy w' (some g) := by
  have har := ha.rd hn hf
  go_enter Tryd.func31, Tryd.ntmps31
  go_wp2_with (first | (go_at_call 46; refine (sameBytes_any _ _ _ _ _ _ ((List.range n).map f) _ (by assumption) (by assumption)).mono ?_; rintro e w' ⟨rfl, rfl⟩) | (go_at_call 47; refine (spoilK_any g n ty f _ ha hf hn h0).mono ?_; rintro e w1 ⟨rfl, hgr⟩; have hb1 := hb.grown hgr hab; have hc1 := hc.grown hgr hac))
  go_ret
  exact ⟨rfl, by assumption⟩
end Go.Proofs.YtaigcjhachkmmaaDoor
