import Derived.Test.YtdpgblojdppfeaaFMem
namespace Go.Proofs.Ytdpgblojdppfeaa
open Go.RowKit
set_option maxRecDepth 100000
set_option linter.unusedVariables false
set_option linter.unusedSimpArgs false

theorem Try.info_u8 : (Try.prog.info? 5).map (fun i => (i.zero, i.size, i.bytes)) = some (some (.int .u8 0), 1, 1) := by kernel_rfl
theorem Try.size_u8 : (Try.prog.info? 5).map (fun i => i.size) = some 1 := by kernel_rfl

theorem bys_zero (n : Nat) : List.replicate n (Value.int .u8 0) = bys (List.replicate n 0) := by simp [bys]
theorem bys_one (L : List Nat) : ∀ u, u ∈ bys L → u.oneCell' = true := by
  intro u hu
  obtain ⟨n, _, rfl⟩ := List.mem_map.1 hu
  rfl
theorem bys_length (L : List Nat) : (bys L).length = L.length := by simp [bys]

/-- 'make([]byte, n)' -/
theorem wpList_mkB (w : World) {ops : Array Oper} {rest : List Oper} {o : Oper} {a : Act} {Q : Exit → Act → World → Prop} (hg : o.guard = none) (l c : Operand)
    (hop : o.op = Op.makeSlice 32 l c) (L C : Int) (n : Nat) (hl : a.eval l = .int .i64 L) (hc : a.eval c = .int .i64 C) (hL : L = n) (hC : C = n) (hn : n ≤ 281474976710656)
    (hK : ∀ w', Blk w' w.heap.size (List.replicate n 0) → w.grownBy w' none → wpList Try.prog ops Q rest (a.put o.dst (.slice (some ⟨w.heap.size, 0, none⟩) n n)) w') :
    wpList Try.prog ops Q (o :: rest) a w := by
  obtain ⟨i0, hi, hz0, hz1, hz2⟩ := info_parts Try.info_u8
  refine wpList_make_full w hg l c 32 hop w.heap.size 5 i0 (.int .u8 0) 1 Try.underlying32 hi hz0 hz1 .i64 .i64 L C n hl hc hL hC (by rw [hz2]; omega) (by unfold maxLen; omega) (Nat.le_refl _) ?_
  intro w' hown hgr
  refine hK w' ?_ hgr
  rcases hown.2 with ⟨h, _⟩ | ⟨g, cap, cur, hv, _, hh, h1, _, h3, h4⟩
  · simp at h
  · simp only [Value.slice.injEq, Option.some.injEq, Addr.mk.injEq] at hv
    obtain ⟨⟨hgg, _⟩, _, hcap⟩ := hv
    subst hgg; subst hcap
    unfold Blk
    rw [hh]
    have e1 : cur.toList = bys (List.replicate n 0) := by
      rw [← bys_zero]
      have e2 : (madeCells (Value.int .u8 0).cells (n * 1)).toList = List.replicate n (Value.int .u8 0) := by
        rw [Nat.mul_one]; exact toList_madeCells_one _ _
      rw [← e2, ← h4, List.take_of_length_le (by simp; omega)]
    rw [← e1]

/-- 'copy(d, s)' into a row of the call's own -/
theorem wpList_cpB {w : World} {ops : Array Oper} {rest : List Oper} {o : Oper} {a : Act} {Q : Exit → Act → World → Prop} (hgd : o.guard = none) (d s : Operand)
    (ho : o.op = Op.call { callee := .builtin .copy, args := #[d, s], argTypes := #[32, 32] }) (g dLen dCap : Nat) (ad : Option Addr) (n cap : Nat)
    (hd : a.eval d = .slice (some ⟨g, 0, none⟩) dLen dCap) (hs : a.eval s = .slice ad n cap) (D L : List Nat) (hB : Blk w g D) (hR : Rd w ad n cap L) (hn : n ≤ dLen) (hD : n ≤ D.length)
    (h : ∀ w', Blk w' g (L ++ D.drop n) → w.grownBy w' (some g) → wpList Try.prog ops Q rest (a.put o.dst (.int .i64 n)) w') :
    wpList Try.prog ops Q (o :: rest) a w := by
  by_cases h0 : n = 0
  · subst h0
    refine wpList_copy_nothing hgd d s 32 32 ho 5 Try.underlying32 Try.size_u8 _ _ dLen dCap 0 cap hd hs (by simp) ?_
    have e : L = [] := List.eq_nil_of_length_eq_zero hR.len
    exact h w (by rw [e]; exact hB) (World.grownBy.refl _ _)
  · obtain ⟨b, off, rfl, hb, hc⟩ := hR.at' (by omega)
    have hmin : min n dLen = n := by omega
    refine wpList_copy_own hgd d s 32 32 ho 5 Try.underlying32 Try.size_u8 g 0 dLen dCap ⟨b, off, none⟩ n cap hd hs _ _ hB (bys L) (by rw [bys_length, hR.len]; exact hmin.symm) ?_ (by simp [bys_length, hR.len]; exact hD) (bys_one L) ?_
    · intro j v hv
      have hj : j < L.length := by
        have := (List.getElem?_eq_some_iff.1 hv).1
        rw [bys_length] at this; exact this
      rw [nth_bys L j hj] at hv
      rw [← hv]
      have hadd : (⟨b, off, none⟩ : Addr).add j = ⟨b, off + j, none⟩ := by unfold Addr.add; split <;> simp_all
      rw [hadd]
      exact hc j (by rw [← hR.len]; exact hj)
    · rw [bys_length, hR.len]
      have e : (List.take 0 (bys D).toArray.toList ++ (bys L ++ List.drop (0 + n) (bys D).toArray.toList)) = bys (L ++ D.drop n) := by simp [bys, List.map_drop]
      rw [e]
      refine h _ (setRow_heap w g _ _ _ _ hB) ⟨rfl, rfl, rfl, by simp, fun k _ hk => setRow_other w g k _ (fun e => hk (by rw [e]))⟩
end Go.Proofs.Ytdpgblojdppfeaa
