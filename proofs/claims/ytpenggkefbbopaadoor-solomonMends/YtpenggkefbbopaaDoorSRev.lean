import Derived.Test.YtpenggkefbbopaaDoorFSums
namespace Go.Proofs.YtpenggkefbbopaaDoor
open Go.RowKit
set_option maxRecDepth 100000
set_option linter.unusedVariables false
set_option linter.unusedSimpArgs false

theorem nth_reverse (L : List Nat) (i : Nat) (h : i < L.length) : nth L.reverse i = nth L (L.length - 1 - i) := by
  unfold nth
  rw [List.getD_eq_getElem?_getD, List.getD_eq_getElem?_getD, List.getElem?_reverse h]
theorem isB_reverse {L : List Nat} (h : IsB L) : IsB L.reverse := fun x hx => h x (List.mem_reverse.1 hx)
theorem Ans.set {w : World} {lo g n cap : Nat} {L : List Nat} (h : Ans w lo (some ⟨g, 0, none⟩) n cap L) (j x : Nat) (hx : x < 256) : Ans (w.setCell ⟨g, j, none⟩ (.int .u8 (x : Int))) lo (some ⟨g, 0, none⟩) n cap (L.set j x) :=
  ⟨own_set h.own j x, isB_set h.byte _ _ hx, h.new⟩
theorem Ans.wide {w : World} {lo lo' : Nat} {a : Option Addr} {n cap : Nat} {L : List Nat} (h : Ans w lo a n cap L) (hl : lo' ≤ lo) : Ans w lo' a n cap L := ⟨h.own, h.byte, fun g hg => Nat.le_trans hl (h.new g hg)⟩

/-- slices.Reverse of a row of the call's own -/
theorem reverse_any (g n cap lo : Nat) (L : List Nat) (w : World) (h : Ans w lo (some ⟨g, 0, none⟩) n cap L) (hn : n ≤ 140737488355328) :
    Calls Tryd.prog 25 #[.slice (some ⟨g, 0, none⟩) n cap] w fun e w' => e = .returned (.tuple #[]) ∧ Ans w' lo (some ⟨g, 0, none⟩) n cap L.reverse ∧ w.grownBy w' (some g) := by
  have HL : Hid (L.length = n) := h.len
  go_enter Tryd.func25, Tryd.ntmps25
  go_wp2
  go_loopw [2, 3] (fun i j wr => ∃ (k : Nat) (z : Int), 2 * k ≤ n + 1 ∧ i = .int .i64 k ∧ j = .int .i64 z ∧ z = (n : Int) - 1 - k ∧ w.grownBy wr (some g) ∧ ∃ D, Ans wr lo (some ⟨g, 0, none⟩) n cap D ∧ ∀ p, p < n → nth D p = if p < k ∨ n < p + k + 1 then nth L (n - 1 - p) else nth L p) (fun _ j _ => (intOf j + 1).toNat)
  case atStart =>
    refine ⟨0, (n : Int) - 1, by omega, rfl, rfl, by omega, World.grownBy.refl _ _, L, h, fun p hp => ?_⟩
    rw [if_neg (by omega)]
  case round =>
    obtain ⟨k, z, hk, rfl, rfl, hz, hgr, D, hA, hD⟩ := hrel
    by_cases hlt : (k : Int) < z
    · obtain ⟨j, rfl⟩ := Int.eq_ofNat_of_zero_le (a := z) (by omega)
      have hkn : k < n := by omega
      have hjn : j < n := by omega
      have hkj : k < j := by omega
      have hck := own_cell hA.own k hkn
      have hcj := own_cell hA.own j hjn
      have hfk := hA.own.frozenAt k
      have hbk := hA.byte.nth k
      have hbj := hA.byte.nth j
      have hA1 := hA.set k (nth D j) hbj
      have hfj := hA1.own.frozenAt j
      have hA2 := hA1.set j (nth D k) hbk
      have HZ : Hid ((j : Int) = (n : Int) - 1 - k) := hz
      have HD : Hid (∀ p, p < n → nth D p = if p < k ∨ n < p + k + 1 then nth L (n - 1 - p) else nth L p) := hD
      have HDl : Hid (D.length = n) := hA.len
      clear hz hD
      go_wp2
      go_region
      all_goals
        go_wp2
        go_roundw
        case rel =>
          have e1 := HZ.out
          refine ⟨k + 1, (j : Int) - 1, by omega, by go_num, by go_num, by omega, grown_trans (grown_trans (grown_trans hgr (grown_set _ _ _ _)) (grown_set _ _ _ _)) (grown_drew _ _), _, hA2.kept (grown_drew _ none) (by simp [Value.ownBlock]), fun p hp => ?_⟩
          rw [nth_set _ _ _ _ (by rw [List.length_set, HDl.out]; omega), nth_set _ _ _ _ (by rw [HDl.out]; omega)]
          by_cases e : j = p
          · subst e; rw [if_pos rfl, if_pos (by omega), HD.out k hkn, if_neg (by omega)]; congr 1; omega
          · rw [if_neg e]
            by_cases e2 : k = p
            · subst e2; rw [if_pos rfl, if_pos (by omega), HD.out j hjn, if_neg (by omega)]; congr 1; omega
            · rw [if_neg e2, HD.out p hp]
              by_cases e3 : p < k ∨ n < p + k + 1
              · rw [if_pos e3, if_pos (by omega)]
              · rw [if_neg e3, if_neg (by omega)]
        case measure => first | (simp [intOf]; done) | (simp [intOf]; omega)
    · have HR : Hid (D = L.reverse) := by
        show _ = _
        refine list_ext (by rw [hA.len, List.length_reverse, HL.out]) fun p hp => ?_
        rw [hA.len] at hp
        rw [nth_reverse L p (by rw [HL.out]; exact hp), HL.out, hD p hp]
        by_cases e : p < k ∨ n < p + k + 1
        · rw [if_pos e]
        · rw [if_neg e]; congr 1; omega
      clear hD
      rw [HR.out] at hA
      go_wp2
      go_end0
      exact ⟨rfl, hA, hgr⟩
end Go.Proofs.YtpenggkefbbopaaDoor
