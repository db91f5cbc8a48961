import Derived.Test.YtaigcjhachkmmaaDoorYBk
import Derived.Lib.LaidTab
import Derived.MakeChecks
namespace Go.Proofs.YtaigcjhachkmmaaDoor
open Go.RowKit
set_option maxRecDepth 100000
set_option linter.unusedVariables false
set_option linter.unusedSimpArgs false
/-! what is listed of the table, and what the walk is told -/
theorem cells_of_tab2 {H : Type} {enc : TypeId × Value → H} {P : Program} {w : World} {base : Nat} {sp : Nat → Bool} {held : Bool} {fuel : Nat} {t e u : TypeId} {n m : Nat} {k : IntKind} {cs : List Value} {rows : List (List Int)} {p : List MemPlace}
    (ht : P.underlying t = some (.array n e)) (he : P.underlying e = some (.array m u)) (hu : P.underlying u = some (.int k)) (hcu : P.cellsOf u = 1) (hce : P.cellsOf e = m) (hct : P.cellsOf t = n * m)
    (h : DataW.trod enc P w base sp held fuel t cs = some (.agg (rows.map fun zs => Lib.tabData k zs), p)) : cs.length = n * m ∧ ∀ i, i < n → ∃ zs, rows[i]? = some zs ∧ (cs.drop (i * m)).take m = zs.map fun z => Value.int k z := by
  cases fuel with
  | zero => simp [DataW.trod] at h
  | succ fuel =>
    simp only [DataW.trod, ht, hce, hct] at h
    split at h
    · rename_i hl
      obtain ⟨xs, hm, hx⟩ := Option.map_eq_some_iff.1 h
      have hxs : xs.map (·.1) = rows.map fun zs => (Lib.tabData k zs : DataW H) := by
        have := congrArg Prod.fst hx
        simpa using this
      refine ⟨by simpa using hl, fun i hi => ?_⟩
      obtain ⟨b, hb, hf⟩ := Lib.mapM_at hm i i (by simp [hi])
      have h2 : (xs.map (·.1))[i]? = some b.1 := by simp [hb]
      rw [hxs, List.getElem?_map, Option.map_eq_some_iff] at h2
      obtain ⟨zs, hz, hzb⟩ := h2
      refine ⟨zs, hz, ?_⟩
      obtain ⟨b1, b2⟩ := b
      simp only at hzb
      subst hzb
      exact Lib.cells_of_tab he hu hcu hce hf
    · cases h
def linRows : List (List Int) := (List.range 8).map fun i => (List.range 4).map fun j => (lnT (i * 4 + j) : Int)
theorem Tryd.gl_lines : Tryd.prog.globalNamed "farhail/keys.lines" = some 0 := by kernel_rfl
theorem Tryd.gt_lines : (Tryd.prog.globals[0]?).map (·.type) = some 85 := by kernel_rfl
theorem lin_of_met {w : World} {rest : List (String × DataW Unit)} (h : laidMet Tryd.prog (("farhail/keys.lines", .agg (linRows.map fun zs => Lib.tabData .i64 zs)) :: rest) w) : Lin w := by
  obtain ⟨ps, ⟨g', t', cs, fuel, p, q, hg', ht', hvar, hd, _, _⟩, _⟩ := h
  obtain rfl := Option.some.inj (Tryd.gl_lines.symm.trans hg')
  obtain rfl := Option.some.inj (Tryd.gt_lines.symm.trans ht')
  obtain ⟨hl, hr⟩ := cells_of_tab2 (n := 8) (m := 4) (k := .i64) Tryd.underlying85 Tryd.underlying84 Tryd.underlying3 (by kernel_rfl) (by kernel_rfl) (by kernel_rfl) hd
  have hcs : cs = kys .i64 32 lnT := by
    apply Array.ext_getElem?
    intro i
    by_cases hi : i < 32
    · rw [kys_at _ _ _ _ hi]
      obtain ⟨zs, hz, he⟩ := hr (i / 4) (by omega)
      have e1 : (List.take 4 (List.drop (i / 4 * 4) cs.toList))[i % 4]? = cs.toList[i]? := by
        rw [List.getElem?_take, if_pos (by omega), List.getElem?_drop, show i / 4 * 4 + i % 4 = i by omega]
      unfold linRows at hz
      rw [List.getElem?_map, List.getElem?_range (by omega)] at hz
      simp only [Option.map_some, Option.some.injEq] at hz
      rw [he, ← hz, List.getElem?_map, List.getElem?_map, List.getElem?_range (by omega)] at e1
      simp only [Option.map_some, show i / 4 * 4 + i % 4 = i by omega] at e1
      rw [← Array.getElem?_toList]
      exact e1.symm
    · rw [Array.getElem?_eq_none (by have : cs.size = cs.toList.length := by simp
                                     omega), Array.getElem?_eq_none (by rw [kys_size]; omega)]
  subst hcs
  unfold World.var? at hvar
  rw [Tryd.gl_lines] at hvar
  simp only [Option.bind_some] at hvar
  split at hvar
  · rename_i c t fr hh
    cases hvar
    exact ⟨t, fr, hh⟩
  · cases hvar
theorem lin_of {w : World} {l : List (String × DataW Unit)} (h : laidMetH Tryd.prog l w) (hl : l = [("farhail/keys.lines", .agg (linRows.map fun zs => Lib.tabData .i64 zs))]) : Lin w := by
  subst hl
  rw [MakeChecks.laidMetH_plain _ _ _ (by kernel_rfl)] at h
  exact lin_of_met h
end Go.Proofs.YtaigcjhachkmmaaDoor
