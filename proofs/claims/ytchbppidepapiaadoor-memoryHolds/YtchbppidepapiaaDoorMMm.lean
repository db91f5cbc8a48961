import Derived.Test.YtchbppidepapiaaDoorMTwM
import Derived.Test.YtchbppidepapiaaDoorZBx
import Derived.Test.YtchbppidepapiaaDoorYZi
import Derived.OwnWalk
import Derived.BigRegion
import Derived.RegionTactic
import Derived.ChangeAlike
namespace Go.Proofs.YtchbppidepapiaaDoor
open Go.RowKit
set_option maxRecDepth 100000
set_option linter.unusedVariables false
set_option linter.unusedSimpArgs false

/-- block g is a row of numbers -/
def BlZ (w : World) (g : Nat) (L : List Nat) : Prop := w.heap[g]? = some (.cells (L.map fun (n : Nat) => Value.int .i64 (n : Int)).toArray 3)
theorem BlZ.lt {w : World} {g : Nat} {L : List Nat} (h : BlZ w g L) : g < w.heap.size := (Array.getElem?_eq_some_iff.1 h).1
theorem BlZ.cell {w : World} {g : Nat} {L : List Nat} (h : BlZ w g L) (i : Nat) (hi : i < L.length) : w.cell? ⟨g, i, none⟩ = some (.int .i64 (nth L i : Nat)) := by
  rw [cell_of_row w g i _ _ _ h]
  unfold nth
  simp [hi]
theorem BlZ.free {w : World} {g : Nat} {L : List Nat} (h : BlZ w g L) (i : Nat) : w.frozen? ⟨g, i, none⟩ = false := frozen_of_row w g i _ _ h
theorem BlZ.set {w : World} {g : Nat} {L : List Nat} (h : BlZ w g L) (i x : Nat) : BlZ (w.setCell ⟨g, i, none⟩ (.int .i64 (x : Int))) g (L.set i x) := by
  unfold BlZ
  rw [heap_setCell_same w g i _ _ _ h]
  simp [List.map_set]
theorem BlZ.grown {w w' : World} {g : Nat} {L : List Nat} {r : Option Nat} (h : BlZ w g L) (hg : w.grownBy w' r) (hne : some g ≠ r) : BlZ w' g L := by
  unfold BlZ; rw [hg.block g h.lt hne]; exact h
/-- a memory of words, as it lies -/
structure Mem (w : World) (gm gc nx : Nat) (C : List Nat) : Prop where
  box : BxS w gm 64 #[.slice (some ⟨gc, 0, none⟩) C.length C.length, .int .i64 (nx : Int)]
  row : BlZ w gc C
  ne : gm ≠ gc
  code : ∀ k, k < C.length → nth C k < 549755813888
  one : 1 ≤ C.length
  most : C.length ≤ 4096
  next : nx < C.length
theorem Mem.grown {w w' : World} {gm gc nx : Nat} {C : List Nat} {r : Option Nat} (h : Mem w gm gc nx C) (hg : w.grownBy w' r) (h1 : some gm ≠ r) (h2 : some gc ≠ r) : Mem w' gm gc nx C :=
  ⟨h.box.keep hg h1, h.row.grown hg h2, h.ne, h.code, h.one, h.most, h.next⟩
theorem Mem.set {w : World} {gm gc nx : Nat} {C : List Nat} (h : Mem w gm gc nx C) (k x : Nat) (hx : x < 549755813888) : Mem (w.setCell ⟨gc, k, none⟩ (.int .i64 (x : Int))) gm gc nx (C.set k x) := by
  have hb := h.box.keep (grown_set w gc k (.int .i64 (x : Int))) (by simp; exact h.ne)
  refine ⟨by rw [List.length_set]; exact hb, h.row.set k x, h.ne, fun j hj => ?_, by rw [List.length_set]; exact h.one, by rw [List.length_set]; exact h.most, by rw [List.length_set]; exact h.next⟩
  rw [List.length_set] at hj
  by_cases hk : k < C.length
  · rw [nth_set _ _ _ _ hk]
    split
    · exact hx
    · exact h.code j hj
  · rw [List.set_eq_of_length_le (by omega)]
    exact h.code j hj
theorem xo_ltM (c p : Nat) (hc : c < 549755813888) (hp : p < 39) : c ^^^ 1 <<< p < 549755813888 := by
  refine Nat.xor_lt_two_pow (n := 39) hc ?_
  rw [Nat.shiftLeft_eq, Nat.one_mul]
  exact Nat.pow_lt_pow_right (by decide) hp
theorem xor_shlM (c p : Nat) (hc : c < 549755813888) (hp : p < 39) : bits .xor .i64 (c : Int) (wrap64 (2 ^ p)) = ((c ^^^ 1 <<< p : Nat) : Int) := by
  rw [shl_one p hp]
  refine i64_xor_nat c (1 <<< p) (by omega) ?_
  rw [Nat.shiftLeft_eq, Nat.one_mul]
  exact Nat.pow_lt_pow_right (by decide) (by omega)
theorem has_any (gm gc nx : Nat) (C : List Nat) (z : Int) (w : World) (h : Mem w gm gc nx C) :
    Calls Tryd.prog 21 #[.pointer (some ⟨gm, 0, none⟩), .int .i64 z] w fun e w' => e = .returned (.bool (inN z ((C.length : Int) - 1))) ∧ w' = w := by
  have c0 := h.box.cell 0 (by simp)
  simp at c0
  have hl := h.one
  have hm := h.most
  have HI := fun w => mwithin_any z ((C.length : Int) - 1) w
  go_enter Tryd.func21, Tryd.ntmps21
  go_wp2_with (go_at_call 25; refine (HI _).mono ?_; rintro e w' ⟨rfl, hw⟩; have hw := hw.symm; subst hw)
  go_ret
  exact ⟨rfl, rfl⟩
/-- Store, of a word that may be, at a place that is there -/
theorem mstore_any (gm gc nx k n : Nat) (C : List Nat) (w : World) (h : Mem w gm gc nx C) (hk : k < C.length) (hn : n < 4294967296) :
    Calls Tryd.prog 14 #[.pointer (some ⟨gm, 0, none⟩), .int .i64 k, .int .i64 n] w fun e w' => e = .returned .nilIface ∧ Mem w' gm gc nx (C.set k (coN n)) ∧ w.grownBy w' (some gc) := by
  have c0 := h.box.cell 0 (by simp)
  simp at c0
  have hc := h.row.cell k hk
  have hf := h.row.free k
  have hm := h.most
  have H1 := fun wz => code_any (n : Int) wz
  have e1 := cdE_ok (z := (n : Int)) ⟨by omega, by omega⟩
  rw [Int.toNat_natCast] at e1
  rw [e1.1, e1.2] at H1
  have H2 := has_any gm gc nx C (k : Int) w h
  rw [inN_t ⟨by omega, by omega⟩] at H2
  have hM := h.set k (coN n) (coN_lt n)
  have hG := grown_set w gc k (.int .i64 (coN n : Int))
  have hki : (k : Int) < (C.length : Int) := by omega
  generalize coN n = x at H1 hM hG ⊢
  go_enter Tryd.func14, Tryd.ntmps14
  go_wp2_with (first
    | (go_at_call 24; refine (H1 _).mono ?_; rintro e w' ⟨rfl, hw⟩; have hw := hw.symm; subst hw)
    | (go_at_call 21; refine H2.mono ?_; rintro e w' ⟨rfl, hw⟩; have hw := hw.symm; subst hw))
  go_ret
  exact ⟨rfl, hM, hG⟩
/-- Turn of a bit that is there -/
theorem mturn_any (gm gc nx k b : Nat) (C : List Nat) (w : World) (h : Mem w gm gc nx C) (hk : k < C.length) (hb : b < 39) :
    Calls Tryd.prog 15 #[.pointer (some ⟨gm, 0, none⟩), .int .i64 k, .int .i64 b] w fun e w' => e = .returned .nilIface ∧ Mem w' gm gc nx (C.set k (nth C k ^^^ 1 <<< b)) ∧ w.grownBy w' (some gc) := by
  have c0 := h.box.cell 0 (by simp)
  simp at c0
  have hc := h.row.cell k hk
  have hf := h.row.free k
  have hm := h.most
  have H1 := fun wz => mwithin_any (b : Int) 38 wz
  rw [inN_t ⟨by omega, by omega⟩] at H1
  have H2 := has_any gm gc nx C (k : Int) w h
  rw [inN_t ⟨by omega, by omega⟩] at H2
  have hxc := h.code k hk
  have hx1 := xor_shlM (nth C k) b hxc hb
  have hM := h.set k (nth C k ^^^ 1 <<< b) (xo_ltM _ _ hxc hb)
  have hG := grown_set w gc k (.int .i64 (nth C k ^^^ 1 <<< b : Nat))
  have hki : (k : Int) < (C.length : Int) := by omega
  generalize nth C k ^^^ 1 <<< b = x at hx1 hM hG ⊢
  generalize nth C k = y at hx1 hc hxc
  go_enter Tryd.func15, Tryd.ntmps15
  go_wp2_with (first
    | (go_at_call 21; refine H2.mono ?_; rintro e w' ⟨rfl, hw⟩; have hw := hw.symm; subst hw)
    | (go_at_call 25; refine (H1 _).mono ?_; rintro e w' ⟨rfl, hw⟩; have hw := hw.symm; subst hw))
  go_region
  all_goals
    go_wp2
    go_ret
    exact ⟨rfl, hM.grown (grown_drew _ none) (by simp) (by simp), grown_trans hG (grown_drew _ _)⟩
theorem wr_one {c : Nat} (h : wrW c ≤ 1) : riE c = 0 := by
  unfold riE
  rw [if_neg (by omega)]
/-- a visit of a place whose word is not lost -/
theorem visit_ok (gm gc nx k : Nat) (C : List Nat) (w : World) (h : Mem w gm gc nx C) (hk : k < C.length) (hw : wrW (nth C k) ≤ 1) :
    Calls Tryd.prog 22 #[.pointer (some ⟨gm, 0, none⟩), .int .i64 k] w fun e w' => e = .returned (.tuple #[.bool (wrW (nth C k) == 1), .int .i64 0]) ∧ Mem w' gm gc nx (C.set k (riW (nth C k))) ∧ w.grownBy w' (some gc) := by
  have c0 := h.box.cell 0 (by simp)
  simp at c0
  have hc := h.row.cell k hk
  have hf := h.row.free k
  have hm := h.most
  have hxc := h.code k hk
  have H1 := fun wz => righted_any (nth C k) hxc wz
  rw [wr_one hw] at H1
  have hM := h.set k (riW (nth C k)) (riW_lt _ hxc)
  have hG := grown_set w gc k (.int .i64 (riW (nth C k) : Nat))
  have hki : (k : Int) < (C.length : Int) := by omega
  generalize riW (nth C k) = x at H1 hM hG ⊢
  generalize (wrW (nth C k) == 1) = b at H1 ⊢
  generalize nth C k = y at H1 hc hxc
  go_enter Tryd.func22, Tryd.ntmps22
  go_wp2_with (first
    | (go_at_call 34; refine (H1 _).mono ?_; rintro e w' ⟨rfl, hw⟩; have hw := hw.symm; subst hw))
  go_ret2
  exact ⟨rfl, hM, hG⟩
/-- Load of a word that is not lost -/
theorem mload_ok (gm gc nx k : Nat) (C : List Nat) (w : World) (h : Mem w gm gc nx C) (hk : k < C.length) (hw : wrW (nth C k) ≤ 1) :
    Calls Tryd.prog 13 #[.pointer (some ⟨gm, 0, none⟩), .int .i64 k] w fun e w' => e = .returned (.tuple #[.int .i64 (gaW (riW (nth C k)) 39 : Nat), .nilIface]) ∧ Mem w' gm gc nx (C.set k (riW (nth C k))) ∧ w.grownBy w' (some gc) := by
  have hm := h.most
  have hxc := h.code k hk
  have H2 := has_any gm gc nx C (k : Int) w h
  rw [inN_t ⟨by omega, by omega⟩] at H2
  have H1 := visit_ok gm gc nx k C w h hk hw
  have H3 := fun wz => gathered_any (riW (nth C k)) (riW_lt _ hxc) wz
  have hrn : nth (C.set k (riW (nth C k))) k = riW (nth C k) := by rw [nth_set _ _ _ _ hk, if_pos rfl]
  have hki : (k : Int) < (C.length : Int) := by omega
  have HL : Hid ((C.set k (riW (nth C k))).length = C.length) := List.length_set
  generalize C.set k (riW (nth C k)) = C' at H1 hrn HL ⊢
  generalize riW (nth C k) = x at H3 hrn ⊢
  generalize (wrW (nth C k) == 1) = b at H1
  generalize gaW x 39 = r at H3 ⊢
  go_enter Tryd.func13, Tryd.ntmps13
  go_wp2_with (first
    | (go_at_call 21; refine H2.mono ?_; rintro e w' ⟨rfl, hw⟩; have hw := hw.symm; subst hw)
    | (go_at_call 22; refine H1.mono ?_; rintro e w1 ⟨rfl, hM, hG⟩; have c0 := hM.box.cell 0 (by simp); simp at c0; have hc := hM.row.cell k (by rw [HL.out]; exact hk); rw [hrn] at hc; have hki2 : (k : Int) < (C'.length : Int) := (by rw [HL.out]; exact hki))
    | (go_at_call 23; refine (H3 _).mono ?_; rintro e w' ⟨rfl, hw⟩; have hw := hw.symm; subst hw))
  go_ret2
  exact ⟨rfl, hM, hG⟩
/-- all blocks but those of p lie as they lay -/
structure Fw (p : Nat → Prop) (w w' : World) : Prop where
  os : w'.os = w.os
  tape : w'.tape = w.tape
  output : w'.output = w.output
  size : w.heap.size ≤ w'.heap.size
  block : ∀ k, k < w.heap.size → ¬ p k → w'.heap[k]? = w.heap[k]?
theorem Fw.refl (p : Nat → Prop) (w : World) : Fw p w w := ⟨rfl, rfl, rfl, Nat.le_refl _, fun _ _ _ => rfl⟩
theorem Fw.step {p : Nat → Prop} {a w w' : World} {r : Option Nat} (f : Fw p a w) (h : w.grownBy w' r) (hr : ∀ k, r = some k → k < a.heap.size → p k) : Fw p a w' :=
  ⟨h.os.trans f.os, h.tape.trans f.tape, h.output.trans f.output, Nat.le_trans f.size h.size, fun k hk hn => (h.block k (Nat.lt_of_lt_of_le hk f.size) (fun e => hn (hr k e.symm hk))).trans (f.block k hk hn)⟩
/-- the memory's own two blocks -/
def mB (gm gc i : Nat) : Prop := i = gm ∨ i = gc
/-- the codes behind j visits from place nx on -/
def scC (C : List Nat) (nx : Nat) : Nat → List Nat
  | 0 => C
  | j + 1 => (scC C nx j).set ((nx + j) % C.length) (riW (nth (scC C nx j) ((nx + j) % C.length)))
/-- how many of them had a wrong bit -/
def scN (C : List Nat) (nx : Nat) : Nat → Nat
  | 0 => 0
  | j + 1 => if wrW (nth (scC C nx j) ((nx + j) % C.length)) == 1 then scN C nx j + 1 else scN C nx j
theorem scC_len (C : List Nat) (nx j : Nat) : (scC C nx j).length = C.length := by
  induction j with
  | zero => rfl
  | succ j ih => rw [scC, List.length_set]; exact ih
theorem scN_le (C : List Nat) (nx j : Nat) : scN C nx j ≤ j := by
  induction j with
  | zero => exact Nat.le_refl _
  | succ j ih => rw [scN]; split <;> omega
theorem Mem.nextTo {w : World} {gm gc nx : Nat} {C : List Nat} (h : Mem w gm gc nx C) (n : Nat) (hn : n < C.length) : Mem (w.setCell ⟨gm, 1, none⟩ (.int .i64 (n : Int))) gm gc n C :=
  ⟨h.box.set 1 _, h.row.grown (grown_set _ _ _ _) (by simp; exact Ne.symm h.ne), h.ne, h.code, h.one, h.most, hn⟩
set_option maxHeartbeats 2000000 in
theorem scrub_ok (gm gc nx n : Nat) (C : List Nat) (w : World) (h : Mem w gm gc nx C) (hn : n ≤ C.length) (hw : ∀ j, j < n → wrW (nth (scC C nx j) ((nx + j) % C.length)) ≤ 1) :
    Calls Tryd.prog 16 #[.pointer (some ⟨gm, 0, none⟩), .int .i64 n] w fun e w' => e = .returned (.tuple #[.int .i64 (scN C nx n : Nat), .slice none 0 0, .nilIface]) ∧ Mem w' gm gc ((nx + n) % C.length) (scC C nx n) ∧ Fw (mB gm gc) w w' := by
  have c0 := h.box.cell 0 (by simp)
  simp at c0
  have hm := h.most
  have H1 := fun wz => mwithin_any (n : Int) (C.length : Int) wz
  rw [inN_t ⟨by omega, by omega⟩] at H1
  go_enter Tryd.func16, Tryd.ntmps16
  go_wp2_with (first
    | (go_at_call 25; refine (H1 _).mono ?_; rintro e w' ⟨rfl, hww⟩; have hww := hww.symm; subst hww))
  go_loopw [7, 8, 21] (fun mv lv i wr => ∃ j : Nat, j ≤ n ∧ i = .int .i64 j ∧ lv = .slice none 0 0 ∧ mv = .int .i64 (scN C nx j : Nat) ∧ Mem wr gm gc ((nx + j) % C.length) (scC C nx j) ∧ Fw (mB gm gc) w wr) (fun _ _ i _ => n - (intOf i).toNat)
  case atStart => exact ⟨0, by omega, rfl, rfl, rfl, by rw [Nat.add_zero, Nat.mod_eq_of_lt h.next]; exact h, Fw.refl _ _⟩
  case round =>
    obtain ⟨j, hj, rfl, rfl, rfl, hM, hF⟩ := hrel
    by_cases hlt : j < n
    · have hwj := hw j hlt
      have hpl : (nx + j) % C.length < (scC C nx j).length := by rw [scC_len]; exact Nat.mod_lt _ (by omega)
      have HV := visit_ok gm gc _ _ _ wr hM hpl hwj
      have c1 : wr.cell? ⟨gm, 1, none⟩ = some (.int .i64 (((nx + j) % C.length : Nat) : Int)) := hM.box.cell 1 (by simp)
      have hjn : (j : Int) < (n : Int) := by omega
      have HS : Hid (scC C nx (j + 1) = (scC C nx j).set ((nx + j) % C.length) (riW (nth (scC C nx j) ((nx + j) % C.length)))) := rfl
      have HN : Hid (scN C nx (j + 1) = if wrW (nth (scC C nx j) ((nx + j) % C.length)) == 1 then scN C nx j + 1 else scN C nx j) := rfl
      have HP : Hid ((nx + (j + 1)) % C.length = ((nx + j) % C.length + 1) % C.length) := by
        show _ = _
        rw [← Nat.add_assoc, Nat.mod_add_mod]
      have hsl := scN_le C nx j
      have HL : Hid ((scC C nx (j + 1)).length = C.length) := scC_len _ _ _
      have hpn : ((nx + j) % C.length + 1) % C.length < C.length := Nat.mod_lt _ (by omega)
      rw [← HS.out] at HV
      obtain ⟨C', hC'⟩ : ∃ C', C' = scC C nx (j + 1) := ⟨_, rfl⟩
      obtain ⟨s', hs'⟩ : ∃ s', s' = scN C nx (j + 1) := ⟨_, rfl⟩
      rw [← hC'] at HV HS HL
      rw [← hs'] at HN
      have HC' : Hid (C' = scC C nx (j + 1)) := hC'
      have HS' : Hid (s' = scN C nx (j + 1)) := hs'
      clear hC' hs'
      generalize (wrW (nth (scC C nx j) ((nx + j) % C.length)) == 1) = b at HV HN
      generalize scN C nx j = s at HN hsl ⊢
      rw [scC_len] at hpl
      generalize (nx + j) % C.length = p at HV c1 hpl HP hpn
      have hlen := hM.most
      rw [scC_len] at hlen
      clear hM hw hwj HS
      have hem : ((p : Int) + 1) % (C.length : Int) = (((p + 1) % C.length : Nat) : Int) := by
        have := Int.natCast_emod (p + 1) C.length
        rw [this]; simp
      have hem2 : ((p : Int) + 1).tmod (C.length : Int) = (((p + 1) % C.length : Nat) : Int) := by rw [Int.tmod_eq_emod_of_nonneg (by omega)]; exact hem
      have hlz : ¬ (C.length : Int) = 0 := by omega
      generalize (p + 1) % C.length = p' at hem hem2 HP hpn
      cases b
      · have HN : Hid (s' = s) := HN.out
        go_wp2_with (first
          | (go_at_call 22; refine HV.mono ?_; rintro e w1 ⟨rfl, hM1, hG1⟩; have d0 : w1.cell? ⟨gm, 0, none⟩ = some (.slice (some ⟨gc, 0, none⟩) C'.length C'.length) := hM1.box.cell 0 (by simp); have d1 : w1.cell? ⟨gm, 1, none⟩ = some (.int .i64 (p : Int)) := hM1.box.cell 1 (by simp); have d2 := hM1.box.free 1; rw [HL.out] at d0))
        have hM2 : Hid (Mem (w1.setCell ⟨gm, 1, none⟩ (.int .i64 (p' : Int))).drew gm gc p' C') := (hM1.nextTo p' (by rw [HL.out]; exact hpn)).grown (grown_drew _ none) (by simp) (by simp)
        have hF2 : Hid (Fw (mB gm gc) w (w1.setCell ⟨gm, 1, none⟩ (.int .i64 (p' : Int))).drew) := ((hF.step hG1 (fun k e _ => .inr (Option.some.inj e).symm)).step (grown_set w1 gm 1 (.int .i64 (p' : Int))) (fun k e _ => .inl (Option.some.inj e).symm)).step (grown_drew _ none) (fun k e _ => nomatch e)
        clear hM1 hG1 hF HV
        go_region
        all_goals
          go_wp2
          go_roundw
          case rel => exact ⟨j + 1, by omega, by go_num, rfl, by rw [← HS'.out, HN.out], by rw [HP.out, ← HC'.out]; exact hM2.out, hF2.out⟩
          case measure => simp [intOf]; omega
      · have HN : Hid (s' = s + 1) := HN.out
        go_wp2_with (first
          | (go_at_call 22; refine HV.mono ?_; rintro e w1 ⟨rfl, hM1, hG1⟩; have d0 : w1.cell? ⟨gm, 0, none⟩ = some (.slice (some ⟨gc, 0, none⟩) C'.length C'.length) := hM1.box.cell 0 (by simp); have d1 : w1.cell? ⟨gm, 1, none⟩ = some (.int .i64 (p : Int)) := hM1.box.cell 1 (by simp); have d2 := hM1.box.free 1; rw [HL.out] at d0))
        have hM2 : Hid (Mem (w1.setCell ⟨gm, 1, none⟩ (.int .i64 (p' : Int))).drew gm gc p' C') := (hM1.nextTo p' (by rw [HL.out]; exact hpn)).grown (grown_drew _ none) (by simp) (by simp)
        have hF2 : Hid (Fw (mB gm gc) w (w1.setCell ⟨gm, 1, none⟩ (.int .i64 (p' : Int))).drew) := ((hF.step hG1 (fun k e _ => .inr (Option.some.inj e).symm)).step (grown_set w1 gm 1 (.int .i64 (p' : Int))) (fun k e _ => .inl (Option.some.inj e).symm)).step (grown_drew _ none) (fun k e _ => nomatch e)
        clear hM1 hG1 hF HV
        go_region
        all_goals
          go_wp2
          go_roundw
          case rel => exact ⟨j + 1, by omega, by go_num, rfl, by rw [← HS'.out, HN.out]; go_num, by rw [HP.out, ← HC'.out]; exact hM2.out, hF2.out⟩
          case measure => simp [intOf]; omega
    · obtain rfl : j = n := by omega
      go_wp2
      go_ret3
      exact ⟨rfl, hM, hF⟩
end Go.Proofs.YtchbppidepapiaaDoor
