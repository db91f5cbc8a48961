import Derived.Deep.MidRow
import Derived.Test.YtnjdbbjhplebhaaPs1
namespace Go.Proofs.Ytnjdbbjhplebhaa
open Go.RowKit
set_option maxRecDepth 100000
set_option linter.unusedVariables false
set_option linter.unusedSimpArgs false

section
def cN (x y : Int) : Int := if x < y then -1 else if y < x then 1 else 0
theorem isNaN_any (x : Int) (w : World) : Calls Try.prog 36 #[.int .i64 x] w fun e w' => e = .returned (.bool false) ∧ w' = w := by
  go_enter Try.func36, Try.ntmps36
  go_wp2
  go_ret
  exact ⟨rfl, rfl⟩
theorem compare_any (x y : Int) (w : World) : Calls Try.prog 32 #[.int .i64 x, .int .i64 y] w fun e w' => e = .returned (.int .i64 (cN x y)) ∧ w' = w := by
  have H := fun z wz => isNaN_any z wz
  unfold cN
  by_cases h1 : x < y
  · rw [if_pos h1]
    go_enter Try.func32, Try.ntmps32
    go_wp2_with (go_at_call 36; refine (H _ _).mono ?_; rintro e wx ⟨rfl, hwx⟩; rw [hwx]; clear hwx)
    go_ret
    exact ⟨rfl, rfl⟩
  · rw [if_neg h1]
    by_cases h2 : y < x
    · rw [if_pos h2]
      go_enter Try.func32, Try.ntmps32
      go_wp2_with (go_at_call 36; refine (H _ _).mono ?_; rintro e wx ⟨rfl, hwx⟩; rw [hwx]; clear hwx)
      go_ret
      exact ⟨rfl, rfl⟩
    · rw [if_neg h2]
      go_enter Try.func32, Try.ntmps32
      go_wp2_with (go_at_call 36; refine (H _ _).mono ?_; rintro e wx ⟨rfl, hwx⟩; rw [hwx]; clear hwx)
      go_ret
      exact ⟨rfl, rfl⟩
section
variable {w : World}
theorem ldMR {o : Oper} {a : Act} {t : TypeId} {p : Operand} {g off : Nat} {cs : List Value} {d : TypeDesc} (hop : o.op = Op.load t p) (hp : a.eval p = .pointer (some ⟨g, off, none⟩)) (hr : w.rangeAt g off cs) (hu : Try.prog.underlying t = some d) (hd : d.isRow = true) (hi : (Try.prog.info? t).map (·.size) = some cs.length) : (execOp a.eval o).run Try.prog w = .ok (.value (.agg cs.toArray)) w := by
  simp [execOp, hop, hp, run_loadAt_mid w g off t cs d hr hu hd hi, Result.andThen]
theorem step_of_listR {ops : Array Oper} {o : Oper} {a : Act} {K : Act → World → Prop} {Q : Exit → Act → World → Prop} {E : Prop} (hg : o.guard = none) (h : wpList Try.prog ops (Exit.then K (fun _ _ _ => False)) [o] a w) :
    if Region.wanted o (yielded ops a.tmps) = true then Oper.wp Try.prog o a w K Q else E := by
  have hw : Region.wanted o (yielded ops a.tmps) = true := by simp [Region.wanted, hg]
  rw [if_pos hw]
  unfold wpList at h
  rw [if_pos hw] at h
  rcases h with h | ⟨_, a', w', h⟩
  · unfold Oper.wp at *
    generalize (execOp a.eval o).run Try.prog w = r at *
    cases r with
    | ok n w' =>
      cases n <;> simp only [Oper.upon] at h ⊢ <;>
        first
          | exact h
          | exact Calls.mono h (fun e w'' he => by
              cases e with
              | returned v => exact he
              | panicked c => exact he.elim
              | outgrown => obtain ⟨a', w', he⟩ := he; exact he.elim)
          | exact Rows.mono h (fun _ _ he => he)
    | halt x w' =>
      cases x <;> simp only [Oper.upon] at h ⊢ <;> first | exact h | exact h.elim
  · exact h.elim
def setA (A : Array Value) : Nat → List Value → Array Value
  | _, [] => A
  | o, v :: r => setA (A.setIfInBounds o v) (o + 1) r
theorem box_setA {g : Nat} {t : TypeId} : ∀ (L : List Value) (o : Nat) (w : World) (A : Array Value), BxS w g t A → BxS (w.setCells g o L) g t (setA A o L) ∧ w.grownBy (w.setCells g o L) (some g) := by
  intro L
  induction L with
  | nil => intro o w A h; exact ⟨h, World.grownBy.refl _ _⟩
  | cons v L ih =>
    intro o w A h
    have h1 : BxS (w.setCell ⟨g, o, none⟩ v) g t (A.setIfInBounds o v) := by unfold BxS; rw [heap_setCell_same w g o _ _ _ h]
    obtain ⟨k1, k2⟩ := ih (o + 1) _ _ h1
    exact ⟨k1, grown_trans (grown_set w g o v) k2⟩
theorem wpList_stP {ops : Array Oper} {rest : List Oper} {o : Oper} {ac : Act} {Q : Exit → Act → World → Prop} (hg : o.guard = none) (t : TypeId) (p x : Operand) (hop : o.op = Op.store t p x)
    (g i : Nat) (ty : TypeId) (A A' B : Array Value) (hp : ac.eval p = .pointer (some ⟨g, i, none⟩)) (hx : ac.eval x = .agg B) (hB : BxS w g ty A) (hin : (Try.prog.info? t).map (·.size) = some B.size) (hi : i + B.size ≤ A.size) (h1 : B.all (·.oneCell') = true) (hA : setA A i B.toList = A')
    (hK : ∀ w', BxS w' g ty A' → w.grownBy w' (some g) → wpList Try.prog ops Q rest (ac.put o.dst undef) w') :
    wpList Try.prog ops Q (o :: rest) ac w := by
  obtain ⟨k1, k2⟩ := box_setA B.toList i w A hB
  rw [hA] at k1
  refine wpList_store_mid hg t p x hop g i B hp hx (fun j hj => ⟨?_, frozen_of_row w g _ _ _ hB⟩) hin h1 (hK _ k1 k2)
  rw [cell_of_row _ _ _ _ _ _ hB, Array.getElem?_eq_getElem (by omega)]
  rfl
end

/-- a load's cells -/
def Ld.cells (x : Ld) : List Value := [.int .i64 (x.pl : Int), .int .i64 (x.fr : Int), .int .i64 (x.by' : Int), .int .i64 (x.lf : Int)]
def flD (H : List Ld) : List Value := H.flatMap Ld.cells
theorem flD_len (H : List Ld) : (flD H).length = H.length * 4 := by
  induction H with
  | nil => rfl
  | cons f fs ih => show (f.cells ++ flD fs).length = _; rw [List.length_append, ih, List.length_cons]; show 4 + _ = _; omega
theorem flD_app (H K : List Ld) : flD (H ++ K) = flD H ++ flD K := by simp [flD]
theorem flD_at (H : List Ld) : ∀ (i j : Nat) (x : Ld), H[i]? = some x → j < 4 → (flD H)[i * 4 + j]? = x.cells[j]? := by
  induction H with
  | nil => intro i j p h; cases h
  | cons q H ih =>
    intro i j x h hj
    show (q.cells ++ flD H)[i * 4 + j]? = _
    cases i with
    | zero =>
      have h : q = x := Option.some.inj h
      rw [List.getElem?_append_left (by simp [Ld.cells]; omega), h]
      simp
    | succ i =>
      rw [List.getElem?_append_right (by simp [Ld.cells]; omega)]
      have e : (i + 1) * 4 + j - q.cells.length = i * 4 + j := by simp [Ld.cells]; omega
      rw [e]
      exact ih i j x h hj
/-- a row of loads in block g, room for cap -/
structure RwD (w : World) (g cap : Nat) (H : List Ld) : Prop where
  ex : ∃ rest, BxS w g 55 (flD H ++ rest).toArray ∧ (flD H ++ rest).length = cap * 4
theorem RwD.cell {w : World} {g cap i : Nat} {H : List Ld} (h : RwD w g cap H) (hi : i < H.length) : ∀ j u, (H.getD i ld0).cells[j]? = some u → w.cell? ⟨g, i * 4 + j, none⟩ = some u := fun j u hu => by
  obtain ⟨rest, hb, _⟩ := h.ex
  have hj : j < 4 := (List.getElem?_eq_some_iff.1 hu).1
  have hx : H[i]? = some (H.getD i ld0) := by rw [List.getD_eq_getElem?_getD, List.getElem?_eq_getElem hi]; rfl
  have h1 := flD_at H i j _ hx hj
  rw [hu] at h1
  have hl : i * 4 + j < (flD H).length := (List.getElem?_eq_some_iff.1 h1).1
  rw [cell_of_row _ _ _ _ _ _ hb]
  simp only [List.getElem?_toArray]
  rw [List.getElem?_append_left hl, h1]
theorem RwD.range {w : World} {g cap i : Nat} {H : List Ld} (h : RwD w g cap H) (hi : i < H.length) : w.rangeAt g (i * 4) (H.getD i ld0).cells := fun j v hv => h.cell hi j v hv
theorem RwD.free {w : World} {g cap : Nat} {H : List Ld} (h : RwD w g cap H) (o : Nat) : w.frozen? ⟨g, o, none⟩ = false := by
  obtain ⟨rest, hb, _⟩ := h.ex
  exact hb.free o
theorem RwD.lt {w : World} {g cap : Nat} {H : List Ld} (h : RwD w g cap H) : g < w.heap.size := by
  obtain ⟨rest, hb, _⟩ := h.ex
  exact hb.lt
theorem RwD.keep {w w' : World} {g cap : Nat} {H : List Ld} {r : Option Nat} (h : RwD w g cap H) (hg : w.grownBy w' r) (hr : some g ≠ r) : RwD w' g cap H := by
  obtain ⟨rest, hb, hl⟩ := h.ex
  exact ⟨rest, hb.keep hg hr, hl⟩
theorem RwD.le {w : World} {g cap : Nat} {H : List Ld} (h : RwD w g cap H) : H.length ≤ cap := by
  obtain ⟨rest, _, hl⟩ := h.ex
  rw [List.length_append, flD_len] at hl
  omega
end

section
def orT (X : Nat → Int) : Int := if X 0 ≠ 0 then X 0 else X 1
set_option maxHeartbeats 4000000 in
theorem or2_any (g : Nat) (X : Nat → Int) (w : World) (hc : ∀ j, j < 2 → w.cell? ⟨g, j, none⟩ = some (.int .i64 (X j))) : Calls Try.prog 64 #[.slice (some ⟨g, 0, none⟩) 2 2] w fun e w' => e = .returned (.int .i64 (orT X)) ∧ w' = w := by
  have HC : Hid _ := hc
  clear hc
  go_enter Try.func64, Try.ntmps64
  go_wp2
  go_loopw [8, 5] (fun v8 v5 wr => ∃ i : Nat, i ≤ 2 ∧ v8 = .int .i64 i ∧ Hid (wr = w) ∧ Hid (∀ j, j < i → X j = 0)) (fun v8 v5 _ => 2 - (intOf v8).toNat)
  case atStart => exact ⟨0, by decide, rfl, (rfl : _ = _), fun j hj => absurd hj (by omega)⟩
  case round =>
    obtain ⟨i, hi, rfl, hw, HZ⟩ := hrel
    have hw := hw.out
    subst hw
    by_cases hlt : i < 2
    · have lj : (i : Int) < 2 := by omega
      have ci := HC.out i hlt
      obtain ⟨x, hx⟩ : ∃ x, X i = x := ⟨_, rfl⟩
      rw [hx] at ci
      have HX : Hid _ := hx
      clear hx
      by_cases h0 : x = 0
      · subst h0
        go_wp2
        go_roundw
        case rel => exact ⟨i + 1, by omega, by go_num, (trivial : True), fun j hj => by by_cases e : j = i; (rw [e]; exact HX.out); exact HZ.out j (by omega)⟩
        case measure => simp [intOf] <;> omega
      · go_wp2
        go_ret
        refine ⟨?_, rfl⟩
        have hz := HZ.out
        have hx := HX.out
        have e : orT X = x := by
          unfold orT
          have : i = 0 ∨ i = 1 := by omega
          rcases this with rfl | rfl
          · rw [if_pos (by rw [hx]; exact h0), hx]
          · rw [if_neg (by rw [hz 0 (by decide)]; simp), hx]
        rw [e]
        rfl
    · obtain rfl : i = 2 := by omega
      have hz := HZ.out
      have e : orT X = 0 := by
        unfold orT
        rw [if_neg (by rw [hz 0 (by decide)]; simp), hz 1 (by decide)]
      have HE : Hid _ := e
      clear e hz
      go_wp2
      go_ret
      refine ⟨?_, rfl⟩
      rw [HE.out]
      rfl

def ltX (a b : Ld) : Nat → Int := fun k => if k = 0 then cN (a.by' : Int) (b.by' : Int) else cN (a.pl : Int) (b.pl : Int)
theorem ltX_lt (a b : Ld) : decide (orT (ltX a b) < 0) = ltQ a b := by
  have h : (orT (ltX a b) < 0) ↔ ltQ a b = true := by
    rw [ltQ_iff]
    unfold orT ltX cN
    simp only [if_true, if_false]
    repeat' split
    all_goals first
      | omega
      | (simp at *; omega)
  cases hq : ltQ a b
  · exact decide_eq_false (fun x => by rw [h, hq] at x; cases x)
  · exact decide_eq_true (h.2 hq)
theorem range_grown {w w' : World} {g o : Nat} {cs : List Value} (h : w.rangeAt g o cs) (hg : w.grownBy w' none) : w'.rangeAt g o cs := fun j v hv => by
  have h1 := h j v hv
  have hb : g < w.heap.size := by
    refine Nat.lt_of_not_le fun e => ?_
    have hn : w.heap[g]? = none := Array.getElem?_eq_none e
    simp [World.cell?, hn] at h1
  exact (World.cell?_of_block (w := w) (hg.block g hb (by simp))).trans h1
set_option maxHeartbeats 16000000 in
theorem qless_any (g n cap i j : Nat) (a b : Ld) (w : World) (hi : i < n) (hj : j < n) (hn : n ≤ 1000000) (ha : w.rangeAt g (i * 4) a.cells) (hb : w.rangeAt g (j * 4) b.cells) :
    Calls Try.prog 60 #[.slice (some ⟨g, 0, none⟩) n cap, .int .i64 (i : Nat), .int .i64 (j : Nat)] w fun e w' => e = .returned (.bool (ltQ a b)) ∧ w.grownBy w' none := by
  have hi' : (i : Int) < (n : Int) := by omega
  have hj' : (j : Int) < (n : Int) := by omega
  go_enter Try.func60, Try.ntmps60
  refine wp_seq_k fun K0 hK0 => ?_
  have HK0 : Hid _ := hK0
  clear hK0
  go_wp2
  refine HK0.out _ _ ?_
  clear HK0
  refine wp_seq_k fun K1 hK1 => ?_
  have HK1 : Hid _ := hK1
  clear hK1
  have Gd := grown_drew w none
  have SS : w.drew.rangeAt g (i * 4) a.cells ∧ w.drew.rangeAt g (j * 4) b.cells := ⟨range_grown ha Gd, range_grown hb Gd⟩
  clear ha hb
  refine wp_regionM (fun wz => wz.rangeAt g (i * 4) a.cells ∧ wz.rangeAt g (j * 4) b.cells) [] #[false, false, false, false, false, false, false, false, false, false, false, false, false, false, false, false, false, false, false, false, false, false, false, false, false, false] rfl (by kernel_rfl) ?_
  generalize w.drew = wd at *
  refine wpAnyY_takeF 0 (.slice (some ⟨g, 0, none⟩) n cap) rfl (by kernel_rfl) (fun _ _ _ h => h) rfl (by intro wz; go_simp; try rfl) ?_
  try simp only [List.getElem_toArray, List.getElem_cons_succ, List.getElem_cons_zero, Act.put, List.setIfInBounds_toArray, List.set_cons_zero, List.set_cons_succ]
  refine wpAnyY_takeF 1 (.int .i64 (i : Nat)) rfl (by kernel_rfl) (fun _ _ _ h => h) rfl (by intro wz; go_simp; try rfl) ?_
  try simp only [List.getElem_toArray, List.getElem_cons_succ, List.getElem_cons_zero, Act.put, List.setIfInBounds_toArray, List.set_cons_zero, List.set_cons_succ]
  refine wpAnyY_takeF 2 (.pointer (some ⟨g, i * 4, none⟩)) rfl (by kernel_rfl) (fun _ _ _ h => h) rfl (by intro wz; go_simp; try rfl) ?_
  try simp only [List.getElem_toArray, List.getElem_cons_succ, List.getElem_cons_zero, Act.put, List.setIfInBounds_toArray, List.set_cons_zero, List.set_cons_succ]
  refine wpAnyY_takeF 3 (.pointer (some ⟨g, i * 4 + 2, none⟩)) rfl (by kernel_rfl) (fun _ _ _ h => h) rfl (by intro wz; go_simp; try rfl) ?_
  try simp only [List.getElem_toArray, List.getElem_cons_succ, List.getElem_cons_zero, Act.put, List.setIfInBounds_toArray, List.set_cons_zero, List.set_cons_succ]
  refine wpAnyY_take [] 4 (.int .i64 (a.by' : Nat)) rfl (by kernel_rfl) (fun _ _ _ h => h) SS rfl (by rintro wz ⟨z1, z2⟩; have hc := z1 2 _ rfl; go_simp) ?_
  try simp only [List.getElem_toArray, List.getElem_cons_succ, List.getElem_cons_zero, Act.put, List.setIfInBounds_toArray, List.set_cons_zero, List.set_cons_succ]
  refine wpAnyY_takeF 5 (.slice (some ⟨g, 0, none⟩) n cap) rfl (by kernel_rfl) (fun _ _ _ h => h) rfl (by intro wz; go_simp; try rfl) ?_
  try simp only [List.getElem_toArray, List.getElem_cons_succ, List.getElem_cons_zero, Act.put, List.setIfInBounds_toArray, List.set_cons_zero, List.set_cons_succ]
  refine wpAnyY_takeF 6 (.int .i64 (j : Nat)) rfl (by kernel_rfl) (fun _ _ _ h => h) rfl (by intro wz; go_simp; try rfl) ?_
  try simp only [List.getElem_toArray, List.getElem_cons_succ, List.getElem_cons_zero, Act.put, List.setIfInBounds_toArray, List.set_cons_zero, List.set_cons_succ]
  refine wpAnyY_takeF 7 (.pointer (some ⟨g, j * 4, none⟩)) rfl (by kernel_rfl) (fun _ _ _ h => h) rfl (by intro wz; go_simp; try rfl) ?_
  try simp only [List.getElem_toArray, List.getElem_cons_succ, List.getElem_cons_zero, Act.put, List.setIfInBounds_toArray, List.set_cons_zero, List.set_cons_succ]
  refine wpAnyY_takeF 8 (.pointer (some ⟨g, j * 4 + 2, none⟩)) rfl (by kernel_rfl) (fun _ _ _ h => h) rfl (by intro wz; go_simp; try rfl) ?_
  try simp only [List.getElem_toArray, List.getElem_cons_succ, List.getElem_cons_zero, Act.put, List.setIfInBounds_toArray, List.set_cons_zero, List.set_cons_succ]
  refine wpAnyY_take [] 9 (.int .i64 (b.by' : Nat)) rfl (by kernel_rfl) (fun _ _ _ h => h) SS rfl (by rintro wz ⟨z1, z2⟩; have hc := z2 2 _ rfl; go_simp) ?_
  try simp only [List.getElem_toArray, List.getElem_cons_succ, List.getElem_cons_zero, Act.put, List.setIfInBounds_toArray, List.set_cons_zero, List.set_cons_succ]
  refine wpAnyY_takeF 11 (.slice (some ⟨g, 0, none⟩) n cap) rfl (by kernel_rfl) (fun _ _ _ h => h) rfl (by intro wz; go_simp; try rfl) ?_
  try simp only [List.getElem_toArray, List.getElem_cons_succ, List.getElem_cons_zero, Act.put, List.setIfInBounds_toArray, List.set_cons_zero, List.set_cons_succ]
  refine wpAnyY_takeF 12 (.int .i64 (i : Nat)) rfl (by kernel_rfl) (fun _ _ _ h => h) rfl (by intro wz; go_simp; try rfl) ?_
  try simp only [List.getElem_toArray, List.getElem_cons_succ, List.getElem_cons_zero, Act.put, List.setIfInBounds_toArray, List.set_cons_zero, List.set_cons_succ]
  refine wpAnyY_takeF 13 (.pointer (some ⟨g, i * 4, none⟩)) rfl (by kernel_rfl) (fun _ _ _ h => h) rfl (by intro wz; go_simp; try rfl) ?_
  try simp only [List.getElem_toArray, List.getElem_cons_succ, List.getElem_cons_zero, Act.put, List.setIfInBounds_toArray, List.set_cons_zero, List.set_cons_succ]
  refine wpAnyY_takeF 14 (.pointer (some ⟨g, i * 4, none⟩)) rfl (by kernel_rfl) (fun _ _ _ h => h) rfl (by intro wz; go_simp; try rfl) ?_
  try simp only [List.getElem_toArray, List.getElem_cons_succ, List.getElem_cons_zero, Act.put, List.setIfInBounds_toArray, List.set_cons_zero, List.set_cons_succ]
  refine wpAnyY_take [] 15 (.int .i64 (a.pl : Nat)) rfl (by kernel_rfl) (fun _ _ _ h => h) SS rfl (by rintro wz ⟨z1, z2⟩; have hc : wz.cell? ⟨g, i * 4, none⟩ = some (.int .i64 (a.pl : Nat)) := z1 0 _ rfl; go_simp) ?_
  try simp only [List.getElem_toArray, List.getElem_cons_succ, List.getElem_cons_zero, Act.put, List.setIfInBounds_toArray, List.set_cons_zero, List.set_cons_succ]
  refine wpAnyY_takeF 16 (.slice (some ⟨g, 0, none⟩) n cap) rfl (by kernel_rfl) (fun _ _ _ h => h) rfl (by intro wz; go_simp; try rfl) ?_
  try simp only [List.getElem_toArray, List.getElem_cons_succ, List.getElem_cons_zero, Act.put, List.setIfInBounds_toArray, List.set_cons_zero, List.set_cons_succ]
  refine wpAnyY_takeF 17 (.int .i64 (j : Nat)) rfl (by kernel_rfl) (fun _ _ _ h => h) rfl (by intro wz; go_simp; try rfl) ?_
  try simp only [List.getElem_toArray, List.getElem_cons_succ, List.getElem_cons_zero, Act.put, List.setIfInBounds_toArray, List.set_cons_zero, List.set_cons_succ]
  refine wpAnyY_takeF 18 (.pointer (some ⟨g, j * 4, none⟩)) rfl (by kernel_rfl) (fun _ _ _ h => h) rfl (by intro wz; go_simp; try rfl) ?_
  try simp only [List.getElem_toArray, List.getElem_cons_succ, List.getElem_cons_zero, Act.put, List.setIfInBounds_toArray, List.set_cons_zero, List.set_cons_succ]
  refine wpAnyY_takeF 19 (.pointer (some ⟨g, j * 4, none⟩)) rfl (by kernel_rfl) (fun _ _ _ h => h) rfl (by intro wz; go_simp; try rfl) ?_
  try simp only [List.getElem_toArray, List.getElem_cons_succ, List.getElem_cons_zero, Act.put, List.setIfInBounds_toArray, List.set_cons_zero, List.set_cons_succ]
  refine wpAnyY_take [] 20 (.int .i64 (b.pl : Nat)) rfl (by kernel_rfl) (fun _ _ _ h => h) SS rfl (by rintro wz ⟨z1, z2⟩; have hc : wz.cell? ⟨g, j * 4, none⟩ = some (.int .i64 (b.pl : Nat)) := z2 0 _ rfl; go_simp) ?_
  try simp only [List.getElem_toArray, List.getElem_cons_succ, List.getElem_cons_zero, Act.put, List.setIfInBounds_toArray, List.set_cons_zero, List.set_cons_succ]
  refine wpAnyY_oneB 10 rfl (by kernel_rfl) (fun KK hKK => ?_)
  go_simp
  go_at_call 32
  refine (compare_any _ _ _).mono ?_
  rintro e wx ⟨rfl, hwx⟩
  dsimp only
  rw [hwx]
  clear hwx
  refine hKK _ _ (fun h _ => h) ?_
  try simp only [List.getElem_toArray, List.getElem_cons_succ, List.getElem_cons_zero, Act.put, List.setIfInBounds_toArray, List.set_cons_zero, List.set_cons_succ]
  refine wpAnyY_oneB 21 rfl (by kernel_rfl) (fun KK hKK => ?_)
  go_simp
  go_at_call 32
  refine (compare_any _ _ _).mono ?_
  rintro e wx ⟨rfl, hwx⟩
  dsimp only
  rw [hwx]
  clear hwx
  refine hKK _ _ (fun h _ => h) ?_
  try simp only [List.getElem_toArray, List.getElem_cons_succ, List.getElem_cons_zero, Act.put, List.setIfInBounds_toArray, List.set_cons_zero, List.set_cons_succ]
  refine wpAnyY_oneB 22 rfl (by kernel_rfl) (fun KK hKK => ?_)
  go_simp
  have Ge := World.grownBy_alloc wd (.cells #[.int .i64 (cN (a.by' : Int) (b.by' : Int)), .int .i64 (cN (a.pl : Int) (b.pl : Int))] 3) none
  have be := BxS.new wd 3 #[.int .i64 (ltX a b 0), .int .i64 (ltX a b 1)]
  have hce : ∀ j, j < 2 → (wd.alloc (.cells #[.int .i64 (cN (a.by' : Int) (b.by' : Int)), .int .i64 (cN (a.pl : Int) (b.pl : Int))] 3)).cell? ⟨wd.heap.size, j, none⟩ = some (.int .i64 (ltX a b j)) := fun j hj => by
    have : j = 0 ∨ j = 1 := by omega
    rcases this with rfl | rfl
    · exact be.cell 0 (by show 0 < 2; decide)
    · exact be.cell 1 (by show 1 < 2; decide)
  generalize wd.alloc (.cells #[.int .i64 (cN (a.by' : Int) (b.by' : Int)), .int .i64 (cN (a.pl : Int) (b.pl : Int))] 3) = we at *
  refine hKK _ _ (fun h _ => ⟨range_grown h.1 Ge, range_grown h.2 Ge⟩) ?_
  try simp only [List.getElem_toArray, List.getElem_cons_succ, List.getElem_cons_zero, Act.put, List.setIfInBounds_toArray, List.set_cons_zero, List.set_cons_succ]
  refine wpAnyY_oneB 23 rfl (by kernel_rfl) (fun KK hKK => ?_)
  go_simp
  go_at_call 64
  refine (or2_any _ (ltX a b) _ hce).mono ?_
  rintro e wx ⟨rfl, hwx⟩
  dsimp only
  rw [hwx]
  clear hwx
  refine hKK _ _ (fun h _ => h) ?_
  try simp only [List.getElem_toArray, List.getElem_cons_succ, List.getElem_cons_zero, Act.put, List.setIfInBounds_toArray, List.set_cons_zero, List.set_cons_succ]
  refine wpAnyY_takeF 24 (.bool (decide (orT (ltX a b) < 0))) rfl (by kernel_rfl) (fun _ _ _ h => h) rfl (by intro wz; go_simp; try rfl) ?_
  try simp only [List.getElem_toArray, List.getElem_cons_succ, List.getElem_cons_zero, Act.put, List.setIfInBounds_toArray, List.set_cons_zero, List.set_cons_succ]
  refine wpAnyY_oneB 25 rfl (by kernel_rfl) (fun KK hKK => ?_)
  go_simp
  refine hKK _ _ (fun h _ => h) ?_
  try simp only [List.getElem_toArray, List.getElem_cons_succ, List.getElem_cons_zero, Act.put, List.setIfInBounds_toArray, List.set_cons_zero, List.set_cons_succ]
  refine wpAnyY_doneB (by kernel_rfl) ?_ _
  refine HK1.out _ _ ?_
  clear HK1
  go_wp2
  first | go_ret | skip
  exact ⟨by rw [← ltX_lt]; rfl, grown_trans Gd Ge⟩
end

section
theorem qlen_any (n cap : Nat) (a : Option Addr) (w : World) : Calls Try.prog 59 #[.slice a n cap] w fun e w' => e = .returned (.int .i64 (n : Nat)) ∧ w' = w := by
  go_enter Try.func59, Try.ntmps59
  go_wp2
  go_ret
  exact ⟨rfl, rfl⟩
theorem set_four (x : Ld) (rest : List Value) : ∀ (H : List Ld) (i : Nat), i < H.length → (((((flD H ++ rest).set (i * 4) (.int .i64 (x.pl : Int))).set (i * 4 + 1) (.int .i64 (x.fr : Int))).set (i * 4 + 2) (.int .i64 (x.by' : Int))).set (i * 4 + 3) (.int .i64 (x.lf : Int))) = flD (H.set i x) ++ rest
  | [], i, h => by simp at h
  | q :: H, 0, _ => rfl
  | q :: H, i + 1, h => by
    have ih := set_four x rest H i (by simpa using h)
    have e : ∀ (M : List Value) (k : Nat) (v : Value), (q.cells ++ M).set ((i + 1) * 4 + k) v = q.cells ++ M.set (i * 4 + k) v := fun M k v => by
      rw [List.set_append_right _ _ (by simp [Ld.cells]; omega)]
      congr 2
      simp [Ld.cells]
      omega
    have e0 : ∀ (M : List Value) (v : Value), (q.cells ++ M).set ((i + 1) * 4) v = q.cells ++ M.set (i * 4) v := fun M v => e M 0 v
    show (((((q.cells ++ flD H ++ rest).set ((i + 1) * 4) _).set ((i + 1) * 4 + 1) _).set ((i + 1) * 4 + 2) _).set ((i + 1) * 4 + 3) _) = q.cells ++ flD (H.set i x) ++ rest
    rw [List.append_assoc, e0, e _ 1, e _ 2, e _ 3, ih, List.append_assoc]
theorem setA_flD (x : Ld) (H : List Ld) (rest : List Value) (i : Nat) (hi : i < H.length) : setA (flD H ++ rest).toArray (i * 4) x.cells = (flD (H.set i x) ++ rest).toArray := by
  rw [← set_four x rest H i hi]
  unfold Ld.cells
  simp [setA]
theorem Try.info_ld : (Try.prog.info? 55).map (·.size) = some 4 := by kernel_rfl
/-- a load is stored into its row -/
theorem wpList_stD {w : World} {ops : Array Oper} {rest : List Oper} {o : Oper} {ac : Act} {Q : Exit → Act → World → Prop} (hg : o.guard = none) (p x : Operand) (hop : o.op = Op.store 55 p x)
    (g cap i : Nat) (H : List Ld) (y : Ld) (hp : ac.eval p = .pointer (some ⟨g, i * 4, none⟩)) (hx : ac.eval x = .agg y.cells.toArray) (h : RwD w g cap H) (hi : i < H.length)
    (hK : ∀ w', RwD w' g cap (H.set i y) → w.grownBy w' (some g) → wpList Try.prog ops Q rest (ac.put o.dst undef) w') :
    wpList Try.prog ops Q (o :: rest) ac w := by
  obtain ⟨r, hb, hl⟩ := h.ex
  refine wpList_stP hg 55 p x hop g (i * 4) 55 _ (flD (H.set i y) ++ r).toArray y.cells.toArray hp hx hb (by rw [Try.info_ld]; rfl) ?_ (by simp [Ld.cells, Value.oneCell']) (setA_flD y H r i hi) ?_
  · simp [Ld.cells, flD_len]
    omega
  · intro w' hb' hg'
    exact hK w' ⟨r, hb', by rw [List.length_append, flD_len, List.length_set, ← flD_len, ← List.length_append]; exact hl⟩ hg'

set_option maxHeartbeats 16000000 in
theorem qswap_any (g cap i j : Nat) (H : List Ld) (w : World) (hi : i < H.length) (hj : j < H.length) (hn : H.length ≤ 1000000) (h : RwD w g cap H) :
    Calls Try.prog 63 #[.slice (some ⟨g, 0, none⟩) H.length cap, .int .i64 (i : Nat), .int .i64 (j : Nat)] w fun e w' => e = .returned (.tuple #[]) ∧ RwD w' g cap (swL ld0 H i j) ∧ w.grownBy w' (some g) := by
  have hi' : (i : Int) < (H.length : Int) := by omega
  have hj' : (j : Int) < (H.length : Int) := by omega
  have Gd := grown_drew w none
  have hd := h.keep Gd (by simp)
  have ha := hd.range hi
  have hb := hd.range hj
  go_enter Try.func63, Try.ntmps63
  refine wp_regionM (fun wz => wz = w.drew) [13, 15] #[false, false, false, false, false, false, false, false, false, false, false, false, false, false, false, false] rfl (by kernel_rfl) ?_
  generalize w.drew = wd at *
  obtain ⟨a, hA⟩ : ∃ a, a = H.getD i ld0 := ⟨_, rfl⟩
  obtain ⟨b, hB⟩ : ∃ b, b = H.getD j ld0 := ⟨_, rfl⟩
  rw [← hA] at ha
  rw [← hB] at hb
  obtain ⟨n, hN⟩ : ∃ n, n = H.length := ⟨_, rfl⟩
  have HN : Hid _ := hN
  have HD : Hid _ := hd
  have HAA : Hid _ := hA
  have HBB : Hid _ := hB
  rw [← hN] at hi' hj' hn ⊢
  clear hN hd hA hB h
  refine wpAnyY_takeF 0 (.slice (some ⟨g, 0, none⟩) n cap) rfl (by kernel_rfl) (fun _ _ _ h => h) rfl (by intro wz; go_simp; try rfl) ?_
  try simp only [List.getElem_toArray, List.getElem_cons_succ, List.getElem_cons_zero, Act.put, List.setIfInBounds_toArray, List.set_cons_zero, List.set_cons_succ]
  refine wpAnyY_takeF 1 (.int .i64 (i : Nat)) rfl (by kernel_rfl) (fun _ _ _ h => h) rfl (by intro wz; go_simp; try rfl) ?_
  try simp only [List.getElem_toArray, List.getElem_cons_succ, List.getElem_cons_zero, Act.put, List.setIfInBounds_toArray, List.set_cons_zero, List.set_cons_succ]
  refine wpAnyY_takeF 2 (.slice (some ⟨g, 0, none⟩) n cap) rfl (by kernel_rfl) (fun _ _ _ h => h) rfl (by intro wz; go_simp; try rfl) ?_
  try simp only [List.getElem_toArray, List.getElem_cons_succ, List.getElem_cons_zero, Act.put, List.setIfInBounds_toArray, List.set_cons_zero, List.set_cons_succ]
  refine wpAnyY_takeF 3 (.int .i64 (j : Nat)) rfl (by kernel_rfl) (fun _ _ _ h => h) rfl (by intro wz; go_simp; try rfl) ?_
  try simp only [List.getElem_toArray, List.getElem_cons_succ, List.getElem_cons_zero, Act.put, List.setIfInBounds_toArray, List.set_cons_zero, List.set_cons_succ]
  refine wpAnyY_takeF 4 (.slice (some ⟨g, 0, none⟩) n cap) rfl (by kernel_rfl) (fun _ _ _ h => h) rfl (by intro wz; go_simp; try rfl) ?_
  try simp only [List.getElem_toArray, List.getElem_cons_succ, List.getElem_cons_zero, Act.put, List.setIfInBounds_toArray, List.set_cons_zero, List.set_cons_succ]
  refine wpAnyY_takeF 5 (.int .i64 (j : Nat)) rfl (by kernel_rfl) (fun _ _ _ h => h) rfl (by intro wz; go_simp; try rfl) ?_
  try simp only [List.getElem_toArray, List.getElem_cons_succ, List.getElem_cons_zero, Act.put, List.setIfInBounds_toArray, List.set_cons_zero, List.set_cons_succ]
  refine wpAnyY_takeF 6 (.pointer (some ⟨g, j * 4, none⟩)) rfl (by kernel_rfl) (fun _ _ _ h => h) rfl (by intro wz; go_simp; try rfl) ?_
  try simp only [List.getElem_toArray, List.getElem_cons_succ, List.getElem_cons_zero, Act.put, List.setIfInBounds_toArray, List.set_cons_zero, List.set_cons_succ]
  refine wpAnyY_take [13, 15] 7 (.agg #[.int .i64 (b.pl : Int), .int .i64 (b.fr : Int), .int .i64 (b.by' : Int), .int .i64 (b.lf : Int)]) rfl (by kernel_rfl) (fun _ _ _ h => h) rfl rfl (fun wz hz => by subst hz; exact ldMR rfl rfl hb Try.underlying55 rfl (by rw [Try.info_ld]; rfl)) ?_
  try simp only [List.getElem_toArray, List.getElem_cons_succ, List.getElem_cons_zero, Act.put, List.setIfInBounds_toArray, List.set_cons_zero, List.set_cons_succ]
  refine wpAnyY_takeF 8 (.slice (some ⟨g, 0, none⟩) n cap) rfl (by kernel_rfl) (fun _ _ _ h => h) rfl (by intro wz; go_simp; try rfl) ?_
  try simp only [List.getElem_toArray, List.getElem_cons_succ, List.getElem_cons_zero, Act.put, List.setIfInBounds_toArray, List.set_cons_zero, List.set_cons_succ]
  refine wpAnyY_takeF 9 (.int .i64 (i : Nat)) rfl (by kernel_rfl) (fun _ _ _ h => h) rfl (by intro wz; go_simp; try rfl) ?_
  try simp only [List.getElem_toArray, List.getElem_cons_succ, List.getElem_cons_zero, Act.put, List.setIfInBounds_toArray, List.set_cons_zero, List.set_cons_succ]
  refine wpAnyY_takeF 10 (.pointer (some ⟨g, i * 4, none⟩)) rfl (by kernel_rfl) (fun _ _ _ h => h) rfl (by intro wz; go_simp; try rfl) ?_
  try simp only [List.getElem_toArray, List.getElem_cons_succ, List.getElem_cons_zero, Act.put, List.setIfInBounds_toArray, List.set_cons_zero, List.set_cons_succ]
  refine wpAnyY_take [13, 15] 11 (.agg #[.int .i64 (a.pl : Int), .int .i64 (a.fr : Int), .int .i64 (a.by' : Int), .int .i64 (a.lf : Int)]) rfl (by kernel_rfl) (fun _ _ _ h => h) rfl rfl (fun wz hz => by subst hz; exact ldMR rfl rfl ha Try.underlying55 rfl (by rw [Try.info_ld]; rfl)) ?_
  try simp only [List.getElem_toArray, List.getElem_cons_succ, List.getElem_cons_zero, Act.put, List.setIfInBounds_toArray, List.set_cons_zero, List.set_cons_succ]
  refine wpAnyY_takeF 12 (.pointer (some ⟨g, i * 4, none⟩)) rfl (by kernel_rfl) (fun _ _ _ h => h) rfl (by intro wz; go_simp; try rfl) ?_
  try simp only [List.getElem_toArray, List.getElem_cons_succ, List.getElem_cons_zero, Act.put, List.setIfInBounds_toArray, List.set_cons_zero, List.set_cons_succ]
  refine wpAnyY_oneB 13 rfl (by kernel_rfl) (fun KK hKK => ?_)
  refine step_of_listR rfl (wpList_stD rfl (.tmp 18) (.tmp 13) rfl g cap i H b rfl rfl HD.out (by have := HN.out; omega) ?_)
  intro w1 hd1 g1
  have HD1 : Hid _ := hd1
  clear hd1
  refine wpList_nil ?_
  show KK _ _
  refine hKK _ _ (fun _ h => absurd (by decide) h) ?_
  try simp only [List.getElem_toArray, List.getElem_cons_succ, List.getElem_cons_zero, Act.put, List.setIfInBounds_toArray, List.set_cons_zero, List.set_cons_succ]
  refine wpAnyY_takeF 14 (.pointer (some ⟨g, j * 4, none⟩)) rfl (by kernel_rfl) (fun _ _ _ h => h) rfl (by intro wz; go_simp; try rfl) ?_
  try simp only [List.getElem_toArray, List.getElem_cons_succ, List.getElem_cons_zero, Act.put, List.setIfInBounds_toArray, List.set_cons_zero, List.set_cons_succ]
  refine wpAnyY_oneB 15 rfl (by kernel_rfl) (fun KK hKK => ?_)
  refine step_of_listR rfl (wpList_stD rfl (.tmp 19) (.tmp 17) rfl g cap j (H.set i b) a rfl rfl HD1.out (by rw [List.length_set]; have := HN.out; omega) ?_)
  intro w2 hd2 g2
  have HD2 : Hid _ := hd2
  clear hd2
  refine wpList_nil ?_
  show KK _ _
  refine hKK _ _ (fun _ h => absurd (by decide) h) ?_
  try simp only [List.getElem_toArray, List.getElem_cons_succ, List.getElem_cons_zero, Act.put, List.setIfInBounds_toArray, List.set_cons_zero, List.set_cons_succ]
  refine wpAnyY_doneB (by kernel_rfl) ?_ _
  go_end0
  refine ⟨rfl, ?_, grown_trans (grown_weak Gd _) (grown_trans g1 g2)⟩
  have e : swL ld0 H i j = (H.set i b).set j a := by unfold swL; rw [HAA.out, HBB.out]
  rw [e]
  exact HD2.out
end

section
theorem Try.mLess0 (gq : Nat) (w : World) : (Go.method 196 52 (.pointer (some ⟨gq, 0, none⟩)) "Less").run Try.prog w = (do let v ← Go.load ⟨gq, 0, none⟩; pure (60, v)).run Try.prog w := by kernel_rfl
theorem Try.mLess {gq : Nat} {w : World} {v : Value} (h : w.cell? ⟨gq, 0, none⟩ = some v) : (Go.method 196 52 (.pointer (some ⟨gq, 0, none⟩)) "Less").run Try.prog w = .ok (60, v) w := by
  rw [Try.mLess0]
  simp [Sem.run_bind, h]
theorem Try.mSwap0 (gq : Nat) (w : World) : (Go.method 196 52 (.pointer (some ⟨gq, 0, none⟩)) "Swap").run Try.prog w = (do let v ← Go.load ⟨gq, 0, none⟩; pure (63, v)).run Try.prog w := by kernel_rfl
theorem Try.mSwap {gq : Nat} {w : World} {v : Value} (h : w.cell? ⟨gq, 0, none⟩ = some v) : (Go.method 196 52 (.pointer (some ⟨gq, 0, none⟩)) "Swap").run Try.prog w = .ok (63, v) w := by
  rw [Try.mSwap0]
  simp [Sem.run_bind, h]
theorem Try.mLen0 (gq : Nat) (w : World) : (Go.method 196 52 (.pointer (some ⟨gq, 0, none⟩)) "Len").run Try.prog w = (do let v ← Go.load ⟨gq, 0, none⟩; pure (59, v)).run Try.prog w := by kernel_rfl
theorem Try.mLen {gq : Nat} {w : World} {v : Value} (h : w.cell? ⟨gq, 0, none⟩ = some v) : (Go.method 196 52 (.pointer (some ⟨gq, 0, none⟩)) "Len").run Try.prog w = .ok (59, v) w := by
  rw [Try.mLen0]
  simp [Sem.run_bind, h]
theorem Try.mPush (gq : Nat) (w : World) : (Go.method 196 52 (.pointer (some ⟨gq, 0, none⟩)) "Push").run Try.prog w = .ok (62, .pointer (some ⟨gq, 0, none⟩)) w := by kernel_rfl
theorem Try.mPop (gq : Nat) (w : World) : (Go.method 196 52 (.pointer (some ⟨gq, 0, none⟩)) "Pop").run Try.prog w = .ok (61, .pointer (some ⟨gq, 0, none⟩)) w := by kernel_rfl
/-- the queue, as it lies: its box gq, its row g -/
structure QB (w : World) (gq g cap : Nat) (H : List Ld) : Prop where
  box : BxS w gq 53 #[.slice (some ⟨g, 0, none⟩) H.length cap]
  row : RwD w g cap H
  ne : gq ≠ g
theorem QB.swap {w w' : World} {gq g cap : Nat} {H H' : List Ld} (h : QB w gq g cap H) (hl : H'.length = H.length) (hr : RwD w' g cap H') (hg : w.grownBy w' (some g)) : QB w' gq g cap H' :=
  ⟨by rw [hl]; exact h.box.keep hg (by simp; exact h.ne), hr, h.ne⟩
theorem QB.keep {w w' : World} {gq g cap : Nat} {H : List Ld} (h : QB w gq g cap H) (hg : w.grownBy w' none) : QB w' gq g cap H := ⟨h.box.keep hg (by simp), h.row.keep hg (by simp), h.ne⟩
set_option maxHeartbeats 16000000 in
theorem hup_any (gq g cap : Nat) (H : List Ld) (j : Nat) (w : World) (hj : j < H.length) (hn : H.length ≤ 1000000) (h : QB w gq g cap H) :
    Calls Try.prog 33 #[.iface 52 (.pointer (some ⟨gq, 0, none⟩)), .int .i64 (j : Nat)] w fun e w' => e = .returned (.tuple #[]) ∧ QB w' gq g cap (upH ltQ ld0 H.length H j) ∧ w.grownBy w' (some g) := by
  have c0 := h.box.cell 0 (by simp)
  simp at c0
  have HQ : Hid _ := h
  clear h
  go_enter Try.func33, Try.ntmps33
  go_wp2
  go_loopw [1] (fun jv wr => ∃ (k : Nat) (K : List Ld), jv = .int .i64 (k : Nat) ∧ k < K.length ∧ K.length = H.length ∧ QB wr gq g cap K ∧ w.grownBy wr (some g) ∧ Hid (∃ f, k ≤ f ∧ upH ltQ ld0 f K k = upH ltQ ld0 H.length H j)) (fun jv _ => (intOf jv).toNat)
  case atStart => exact ⟨j, H, rfl, hj, rfl, HQ.out, World.grownBy.refl _ _, ⟨H.length, by omega, rfl⟩⟩
  case round =>
    obtain ⟨k, K, rfl, hk, hl, hB, hg, hf⟩ := hrel
    have hk' : (k : Int) < 1000000 := by omega
    have c0 := hB.box.cell 0 (by simp)
    simp at c0
    by_cases h0 : k = 0
    · rw [show ((k : Nat) : Int) = 0 by omega]
      go_wp2
      go_end0
      refine ⟨rfl, ?_, hg⟩
      obtain ⟨f, hf1, hf2⟩ := hf.out
      rw [← hf2]
      have e : upH ltQ ld0 f K k = K := by
        subst h0
        cases f with
        | zero => rfl
        | succ f =>
          unfold upH
          exact if_pos rfl
      rw [e]
      exact hB
    · obtain ⟨p, hp⟩ : ∃ p, p = (k - 1) / 2 := ⟨_, rfl⟩
      have hd : ((k : Int) - 1).tdiv 2 = (p : Int) := by rw [Int.tdiv_eq_ediv_of_nonneg (by omega)]; omega
      have hbe : (((p : Nat) : Int) == (k : Nat)) = false := by
        have : ¬ ((p : Nat) : Int) = (k : Nat) := by omega
        exact beq_eq_false_iff_ne.2 this
      have hpl : p < k := by omega
      have HP : Hid _ := hp
      clear hp
      rw [hl] at c0
      have mL := Try.mLess c0
      have L0 := qless_any g H.length cap k p (K.getD k ld0) (K.getD p ld0) wr (by omega) (by omega) (by omega) (hB.row.range hk) (hB.row.range (by omega))
      have S0 : ∀ wz, RwD wz g cap K → Calls Try.prog 63 #[.slice (some ⟨g, 0, none⟩) H.length cap, .int .i64 (p : Nat), .int .i64 (k : Nat)] wz fun e w' => e = .returned (.tuple #[]) ∧ RwD w' g cap (swL ld0 K p k) ∧ wz.grownBy w' (some g) := fun wz hz => by
        rw [← hl]
        exact qswap_any g cap p k K wz (by omega) hk (by omega) hz
      have C1 : ∀ wz, wr.grownBy wz none → wz.cell? ⟨gq, 0, none⟩ = some (.slice (some ⟨g, 0, none⟩) H.length cap) := fun wz hz => by
        have c1 := (hB.keep hz).box.cell 0 (by simp)
        simp at c1
        rw [← hl]
        exact c1
      have HL : Hid _ := hl
      have HK : Hid _ := hk
      have HBB : Hid _ := hB
      have HN : Hid _ := hn
      clear hl hk hB hn
      by_cases hlt : ltQ (K.getD k ld0) (K.getD p ld0) = true
      · rw [hlt] at L0
        have HLT : Hid _ := hlt
        clear hlt
        go_wp2_with (first
          | (go_at_call 60; refine L0.mono ?_; rintro e wx ⟨rfl, hgx⟩; have mS := Try.mSwap (C1 _ hgx))
          | (go_at_call 63; refine (S0 _ (QB.keep HBB.out hgx).row).mono ?_; rintro e wy ⟨rfl, hry, hgy⟩))
        have hl := HL.out
        have hk2 := HK.out
        refine ⟨⟨p, swL ld0 K p k, rfl, by rw [swL_len]; omega, by rw [swL_len]; exact hl, QB.swap (QB.keep HBB.out hgx) (swL_len _ _ _ _) hry hgy, (hg.trans (hgx.but _)).trans hgy, ?_⟩, by simp [intOf]; omega⟩
        obtain ⟨f, hf1, hf2⟩ := hf.out
        cases f with
        | zero => omega
        | succ f =>
          have hp2 := HP.out
          refine ⟨f, by omega, ?_⟩
          rw [← hf2]
          conv => rhs; unfold upH
          rw [← hp2, if_neg (by omega), if_pos HLT.out]
      · rw [Bool.not_eq_true] at hlt
        rw [hlt] at L0
        have HLT : Hid _ := hlt
        clear hlt
        go_wp2_with (first
          | (go_at_call 60; refine L0.mono ?_; rintro e wx ⟨rfl, hgx⟩))
        go_end0
        refine ⟨rfl, ?_, hg.trans (hgx.but _)⟩
        obtain ⟨f, hf1, hf2⟩ := hf.out
        have e : upH ltQ ld0 f K k = K := by
          cases f with
          | zero => rfl
          | succ f =>
            have hp2 := HP.out
            unfold upH
            rw [← hp2, if_neg (by omega), HLT.out]
            exact if_neg (by simp)
        rw [← hf2, e]
        exact QB.keep HBB.out hgx
end
end Go.Proofs.Ytnjdbbjhplebhaa
