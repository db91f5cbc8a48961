import Derived.Shelf.SlSortCmp.Whole1
import Derived.Test.YtpcejajijaphbaaProg
import Derived.Test.YtpcejajijaphbaaPc4
import Derived.Shelf.SlSortCmp.NoneTotal
namespace Go.Proofs.Ytpcejajijaphbaa
open Go.RowKit
set_option maxRecDepth 100000
set_option linter.unusedVariables false
set_option linter.unusedSimpArgs false

section
open Go.Shelf
def sortI_ren : Go.Shelf.Ren := ⟨fun | 6 => 28 | 15 => 32 | 14 => 31 | 28 => 41 | 29 => 42 | 20 => 33 | 21 => 34 | 22 => 35 | 23 => 36 | 24 => 37 | 25 => 38 | 26 => 39 | 27 => 40 | 46 => 43 | 47 => 44 | 48 => 45 | 49 => 46 | 50 => 47 | 57 => 48 | n => n, fun | 22 => 23 | 24 => 3 | 25 => 33 | 3 => 3 | 39 => 63 | 0 => 0 | 53 => 73 | 55 => 75 | 4 => 4 | 46 => 66 | 45 => 65 | 50 => 70 | 5 => 5 | 9 => 9 | 66 => 76 | 70 => 80 | 76 => 82 | 77 => 83 | n => n, fun | n => n⟩
theorem sortI : Go.Proofs.SlLaysF.n6 Try.prog sortI_ren := {
  mixed := by kernel_rfl
  f6 := ⟨Try.f28.name, by decide, Try.func28.trans (congrArg some (by kernel_rfl))⟩
  f14 := ⟨Try.f31.name, by decide, Try.func31.trans (congrArg some (by kernel_rfl))⟩
  f15 := Try.func32.trans (congrArg some (by kernel_rfl))
  f20 := ⟨Try.f33.name, by decide, Try.func33.trans (congrArg some (by kernel_rfl))⟩
  f21 := ⟨Try.f34.name, by decide, Try.func34.trans (congrArg some (by kernel_rfl))⟩
  f22 := ⟨Try.f35.name, by decide, Try.func35.trans (congrArg some (by kernel_rfl))⟩
  f23 := ⟨Try.f36.name, by decide, Try.func36.trans (congrArg some (by kernel_rfl))⟩
  f24 := ⟨Try.f37.name, by decide, Try.func37.trans (congrArg some (by kernel_rfl))⟩
  f25 := ⟨Try.f38.name, by decide, Try.func38.trans (congrArg some (by kernel_rfl))⟩
  f26 := ⟨Try.f39.name, by decide, Try.func39.trans (congrArg some (by kernel_rfl))⟩
  f27 := ⟨Try.f40.name, by decide, Try.func40.trans (congrArg some (by kernel_rfl))⟩
  f28 := Try.func41.trans (congrArg some (by kernel_rfl))
  f29 := Try.func42.trans (congrArg some (by kernel_rfl))
  f46 := ⟨Try.f43.name, by decide, Try.func43.trans (congrArg some (by kernel_rfl))⟩
  f47 := Try.func44.trans (congrArg some (by kernel_rfl))
  f48 := Try.func45.trans (congrArg some (by kernel_rfl))
  f49 := ⟨Try.f46.name, by decide, Try.func46.trans (congrArg some (by kernel_rfl))⟩
  f50 := ⟨Try.f47.name, by decide, Try.func47.trans (congrArg some (by kernel_rfl))⟩
  f57 := ⟨Try.f48.name, by decide, Try.func48.trans (congrArg some (by kernel_rfl))⟩
  t0 := Try.underlying0
  a0 := Try.isAgg0
  z0 := Try.sizeOf0
  v0 := Try.zeroValue0
  t3 := Try.underlying3
  a3 := Try.isAgg3
  z3 := Try.sizeOf3
  v3 := Try.zeroValue3
  t4 := Try.underlying4
  a4 := Try.isAgg4
  z4 := Try.sizeOf4
  v4 := Try.zeroValue4
  t5 := Try.underlying5
  a5 := Try.isAgg5
  z5 := Try.sizeOf5
  v5 := Try.zeroValue5
  t9 := Try.underlying9
  a9 := Try.isAgg9
  z9 := Try.sizeOf9
  v9 := Try.zeroValue9
  t22 := Try.underlying23
  a22 := Try.isAgg23
  z22 := Try.sizeOf23
  v22 := Try.zeroValue23
  a24 := Try.isAgg3
  z24 := Try.sizeOf3
  t25 := Try.underlying33
  a25 := Try.isAgg33
  z25 := Try.sizeOf33
  v25 := Try.zeroValue33
  t39 := Try.underlying63
  a39 := Try.isAgg63
  z39 := Try.sizeOf63
  v39 := Try.zeroValue63
  t45 := Try.underlying65
  a45 := Try.isAgg65
  z45 := Try.sizeOf65
  v45 := Try.zeroValue65
  t46 := Try.underlying66
  a46 := Try.isAgg66
  z46 := Try.sizeOf66
  v46 := Try.zeroValue66
  t50 := Try.underlying70
  a50 := Try.isAgg70
  z50 := Try.sizeOf70
  v50 := Try.zeroValue70
  t53 := Try.underlying73
  a53 := Try.isAgg73
  z53 := Try.sizeOf73
  v53 := Try.zeroValue73
  t55 := Try.underlying75
  a55 := Try.isAgg75
  z55 := Try.sizeOf75
  v55 := Try.zeroValue75
  t66 := Try.underlying76
  a66 := Try.isAgg76
  z66 := Try.sizeOf76
  v66 := Try.zeroValue76
  t70 := Try.underlying80
  a70 := Try.isAgg80
  z70 := Try.sizeOf80
  v70 := Try.zeroValue80
  t76 := Try.underlying82
  a76 := Try.isAgg82
  z76 := Try.sizeOf82
  v76 := Try.zeroValue82
  t77 := Try.underlying83
  a77 := Try.isAgg83
  z77 := Try.sizeOf83
  v77 := Try.zeroValue83 }
end

section
set_option maxHeartbeats 16000000 in
theorem cmpF_any (w : World) (g1 lb lf ln lc x y : Nat) (F : Nat → Pa) (b1 : BxS w g1 22 #[.slice (some ⟨lb, lf, none⟩) ln lc]) (hx : x < ln) (hy : y < ln) (rx : w.rangeAt lb (lf + x * 4) (F x).cells) (ry : w.rangeAt lb (lf + y * 4) (F y).cells) (hl : ln ≤ lc ∧ lc ≤ 9223372036854775807) :
    Calls Try.prog 29 #[.int .i64 (x : Int), .int .i64 (y : Int), .pointer (some ⟨g1, 0, none⟩)] w fun e w' => e = .returned (.int .i64 (cN (F y).fr (F x).fr)) ∧ w' = w.drew := by
  have hxi : (x : Int) < (ln : Int) := by omega
  have hyi : (y : Int) < (ln : Int) := by omega
  go_enter Try.func29, Try.ntmps29
  refine wp_seq_k fun K0 hK0 => ?_
  have HK0 : Hid _ := hK0
  clear hK0
  go_wp2
  refine HK0.out _ _ ?_
  clear HK0
  refine wp_seq_k fun K1 hK1 => ?_
  have HK1 : Hid _ := hK1
  clear hK1
  have SS : BxS w.drew g1 22 #[.slice (some ⟨lb, lf, none⟩) ln lc] ∧ w.drew.rangeAt lb (lf + x * 4) (F x).cells ∧ w.drew.rangeAt lb (lf + y * 4) (F y).cells := ⟨b1, rx, ry⟩
  refine wp_regionM (fun wz => BxS wz g1 22 #[.slice (some ⟨lb, lf, none⟩) ln lc] ∧ wz.rangeAt lb (lf + x * 4) (F x).cells ∧ wz.rangeAt lb (lf + y * 4) (F y).cells) [] #[false, false, false, false, false, false, false, false, false, false, false, false] rfl (by kernel_rfl) ?_
  generalize hwd : w.drew = wd at *
  refine wpAnyY_take [] 0 (.slice (some ⟨lb, lf, none⟩) ln lc) rfl (by kernel_rfl) (fun _ _ _ h => h) SS rfl (by rintro wz ⟨z1, z2, z3⟩; have z := z1.cell1; go_simp) ?_
  try simp only [List.getElem_toArray, List.getElem_cons_succ, List.getElem_cons_zero, Act.put, List.setIfInBounds_toArray, List.set_cons_zero, List.set_cons_succ]
  refine wpAnyY_takeF 1 (.int .i64 (y : Int)) rfl (by kernel_rfl) (fun _ _ _ h => h) rfl (by intro wz; go_simp; try rfl) ?_
  try simp only [List.getElem_toArray, List.getElem_cons_succ, List.getElem_cons_zero, Act.put, List.setIfInBounds_toArray, List.set_cons_zero, List.set_cons_succ]
  refine wpAnyY_takeF 2 (.pointer (some ⟨lb, lf + y * 4, none⟩)) rfl (by kernel_rfl) (fun _ _ _ h => h) rfl (by intro wz; go_simp; try rfl) ?_
  try simp only [List.getElem_toArray, List.getElem_cons_succ, List.getElem_cons_zero, Act.put, List.setIfInBounds_toArray, List.set_cons_zero, List.set_cons_succ]
  refine wpAnyY_takeF 3 (.pointer (some ⟨lb, lf + y * 4 + 1, none⟩)) rfl (by kernel_rfl) (fun _ _ _ h => h) rfl (by intro wz; go_simp; try rfl) ?_
  try simp only [List.getElem_toArray, List.getElem_cons_succ, List.getElem_cons_zero, Act.put, List.setIfInBounds_toArray, List.set_cons_zero, List.set_cons_succ]
  refine wpAnyY_take [] 4 (.int .i64 (F y).fr) rfl (by kernel_rfl) (fun _ _ _ h => h) SS rfl (by rintro wz ⟨z1, z2, z3⟩; have z : wz.cell? ⟨lb, lf + y * 4 + 1, none⟩ = some (.int .i64 (F y).fr) := z3 1 _ rfl; go_simp) ?_
  try simp only [List.getElem_toArray, List.getElem_cons_succ, List.getElem_cons_zero, Act.put, List.setIfInBounds_toArray, List.set_cons_zero, List.set_cons_succ]
  refine wpAnyY_take [] 5 (.slice (some ⟨lb, lf, none⟩) ln lc) rfl (by kernel_rfl) (fun _ _ _ h => h) SS rfl (by rintro wz ⟨z1, z2, z3⟩; have z := z1.cell1; go_simp) ?_
  try simp only [List.getElem_toArray, List.getElem_cons_succ, List.getElem_cons_zero, Act.put, List.setIfInBounds_toArray, List.set_cons_zero, List.set_cons_succ]
  refine wpAnyY_takeF 6 (.int .i64 (x : Int)) rfl (by kernel_rfl) (fun _ _ _ h => h) rfl (by intro wz; go_simp; try rfl) ?_
  try simp only [List.getElem_toArray, List.getElem_cons_succ, List.getElem_cons_zero, Act.put, List.setIfInBounds_toArray, List.set_cons_zero, List.set_cons_succ]
  refine wpAnyY_takeF 7 (.pointer (some ⟨lb, lf + x * 4, none⟩)) rfl (by kernel_rfl) (fun _ _ _ h => h) rfl (by intro wz; go_simp; try rfl) ?_
  try simp only [List.getElem_toArray, List.getElem_cons_succ, List.getElem_cons_zero, Act.put, List.setIfInBounds_toArray, List.set_cons_zero, List.set_cons_succ]
  refine wpAnyY_takeF 8 (.pointer (some ⟨lb, lf + x * 4 + 1, none⟩)) rfl (by kernel_rfl) (fun _ _ _ h => h) rfl (by intro wz; go_simp; try rfl) ?_
  try simp only [List.getElem_toArray, List.getElem_cons_succ, List.getElem_cons_zero, Act.put, List.setIfInBounds_toArray, List.set_cons_zero, List.set_cons_succ]
  refine wpAnyY_take [] 9 (.int .i64 (F x).fr) rfl (by kernel_rfl) (fun _ _ _ h => h) SS rfl (by rintro wz ⟨z1, z2, z3⟩; have z : wz.cell? ⟨lb, lf + x * 4 + 1, none⟩ = some (.int .i64 (F x).fr) := z2 1 _ rfl; go_simp) ?_
  try simp only [List.getElem_toArray, List.getElem_cons_succ, List.getElem_cons_zero, Act.put, List.setIfInBounds_toArray, List.set_cons_zero, List.set_cons_succ]
  refine wpAnyY_oneB 10 rfl (by kernel_rfl) (fun KK hKK => ?_)
  go_simp
  go_at_call 27
  refine (compare_any _ _ _).mono ?_
  rintro e wx ⟨rfl, hwx⟩
  dsimp only
  rw [hwx]
  clear hwx
  refine hKK _ _ (fun h _ => h) ?_
  try simp only [List.getElem_toArray, List.getElem_cons_succ, List.getElem_cons_zero, Act.put, List.setIfInBounds_toArray, List.set_cons_zero, List.set_cons_succ]
  refine wpAnyY_oneB 11 rfl (by kernel_rfl) (fun KK hKK => ?_)
  go_simp
  refine hKK _ _ (fun h _ => h) ?_
  try simp only [List.getElem_toArray, List.getElem_cons_succ, List.getElem_cons_zero, Act.put, List.setIfInBounds_toArray, List.set_cons_zero, List.set_cons_succ]
  refine wpAnyY_doneB (by kernel_rfl) ?_ _
  refine HK1.out _ _ ?_
  clear HK1
  go_wp2
  first | go_ret | skip
  exact ⟨rfl, rfl⟩
open Go.Sort Go.Shelf in
theorem grown_sort {α : Type} [Inhabited α] (enc : α → Value) (w : World) (g n : Nat) (d : Array α) (os : Array Obj) : w.grownBy (sortWorld enc w g 0 n d os) (some g) := by
  refine ⟨rfl, rfl, rfl, by simp [sortWorld, grow, putRow, mapBlock, Sort.ahead], fun k hk hne => ?_⟩
  have h1 : g ≠ k := fun e => hne (by rw [e])
  have h2 : k < (putRow enc (Sort.ahead w n) g 0 d).heap.size := by simpa [putRow, mapBlock, Sort.ahead] using hk
  have h3 : (sortWorld enc w g 0 n d os).heap[k]? = (putRow enc (Sort.ahead w n) g 0 d).heap[k]? := by
    show ((putRow enc (Sort.ahead w n) g 0 d).heap ++ os)[k]? = _
    rw [Array.getElem?_append_left h2]
  rw [h3]
  simp [putRow, mapBlock, Sort.ahead, Array.getElem?_modify, h1]
theorem ext_all {α : Type} (d : Array α) (n : Nat) (h : d.size = n) : (d.extract 0 n).toList = d.toList := by
  subst h
  simp
theorem cN_neg (x y : Int) : (cN x y < 0) ↔ x < y := by
  unfold cN
  by_cases h1 : x < y
  · rw [if_pos h1]; simp [h1]
  · rw [if_neg h1]
    by_cases h2 : y < x
    · rw [if_pos h2]; simp [h1]
    · rw [if_neg h2]; simp [h1]
theorem range_ne {w w' : World} {b o g : Nat} {cs : List Value} (h : w.rangeAt b o cs) (hb : b < w.heap.size) (hg : w.grownBy w' (some g)) (hne : b ≠ g) : w'.rangeAt b o cs := by
  intro j v hv
  have := h j v hv
  unfold World.cell? at this ⊢
  rw [hg.block b hb (by simp [hne])]
  exact this
open Go.Sort Go.Shelf in
set_option maxHeartbeats 4000000 in
/-- the sort of places, the latest first -/
theorem sortP_any (w : World) (g1 lb lf ln lc go : Nat) (F : Nat → Pa) (b1 : BxS w g1 22 #[.slice (some ⟨lb, lf, none⟩) ln lc]) (hl : ln ≤ lc ∧ lc ≤ 9223372036854775807) (hn : 0 < ln) (hr : ∀ i, i < ln → w.rangeAt lb (lf + i * 4) (F i).cells) (hlb : lb < w.heap.size) (hne : lb ≠ go) (hgo : g1 ≠ go) (hgs : go < w.heap.size) (hc : ∀ j, j < ln → w.cell? ⟨go, j, none⟩ = some (.int .i64 (j : Int)) ∧ w.frozen? ⟨go, j, none⟩ = false) (h1000 : ln ≤ 1000) :
    Calls Try.prog 28 #[.slice (some ⟨go, 0, none⟩) ln ln, .func (.func 29) #[] #[.pointer (some ⟨g1, 0, none⟩)]] w fun e w' => e = .returned (.tuple #[]) ∧ w.grownBy w' (some go) ∧ ∃ O : List Nat, O.length = ln ∧ (∀ j p : Nat, O[j]? = some p → w'.cell? ⟨go, j, none⟩ = some (.int .i64 (p : Int))) ∧ (∀ p, p ∈ O ↔ p < ln) ∧ O.Pairwise (fun a b => (F b).fr ≤ (F a).fr) := by
  have hI : Inhabited (Fin ln) := ⟨⟨0, hn⟩⟩
  have eg : ∀ args w, (callFunc 29 args).run Try.prog w = .ok (.enter 29 args) w := enters_of Try.func29 (by kernel_rfl) rfl
  have hlt : ∀ x y : Fin ln, ltOf (fun x y : Fin ln => cN (F y.val).fr (F x.val).fr) x y = decide ((F y.val).fr < (F x.val).fr) := fun x y => by
    unfold ltOf
    exact decide_eq_decide.2 (cN_neg _ _)
  have hO : SWO (ltOf (fun x y : Fin ln => cN (F y.val).fr (F x.val).fr)) := ⟨fun x => by rw [hlt]; simp, fun x y z h1 h2 => by rw [hlt] at *; simp at *; omega, fun x y z h1 h2 => by rw [hlt] at *; simp at *; omega⟩
  have hsz : (Array.ofFn (n := ln) id).size = ln := by simp
  have hat : ∀ j (hj : j < ln), (Array.ofFn (n := ln) id)[j]! = ⟨j, hj⟩ := fun j hj => by
    rw [getElem!_pos _ j (by simpa using hj)]
    simp
  have hH : Holds (fun x : Fin ln => Value.int .i64 (x.val : Int)) w go 0 (Array.ofFn id) := fun j hj => by
    have hj : j < ln := by simpa using hj
    rw [Nat.zero_add, hat j hj]
    exact hc j hj
  have hcmp : CmpReads Try.prog 29 #[.pointer (some ⟨g1, 0, none⟩)] (fun x : Fin ln => Value.int .i64 (x.val : Int)) (fun x y : Fin ln => cN (F y.val).fr (F x.val).fr) go 0 (Array.ofFn (n := ln) id).size w := fun m os dk hs x y => by
    have G := grown_sort (fun x : Fin ln => Value.int .i64 (x.val : Int)) w go m dk os
    refine (cmpF_any (sortWorld (fun x : Fin ln => Value.int .i64 (x.val : Int)) w go 0 m dk os) g1 lb lf ln lc x.val y.val F (b1.keep G (by simp [hgo])) x.isLt y.isLt (range_ne (hr x.val x.isLt) hlb G hne) (range_ne (hr y.val y.isLt) hlb G hne) hl).mono ?_
    rintro e w' ⟨e1, e2⟩
    exact ⟨e1, 1, e2⟩
  have hcon := Any.slices_SortFunc sortI (fun x : Fin ln => Value.int .i64 (x.val : Int)) (fun _ => rfl) (fun x y : Fin ln => cN (F y.val).fr (F x.val).fr) hO 29 #[.pointer (some ⟨g1, 0, none⟩)] go 0 ln (Array.ofFn id) w eg hcmp.lays hH hgs (by rw [hsz]; omega)
  change Calls Try.prog 28 _ _ _ at hcon
  rw [hsz] at hcon
  refine hcon.mono ?_
  rintro e w' ⟨e1, d', n, os, hp, hs, rfl⟩
  have hd : d'.size = ln := by rw [hp.1, hsz]
  have hHd := holds_sortWorld (fun x : Fin ln => Value.int .i64 (x.val : Int)) w go 0 n (Array.ofFn id) d' os hgs hH hp.1
  refine ⟨e1, grown_sort _ w go n d' os, d'.toList.map Fin.val, by simp [hd], fun j p hj => ?_, fun p => ?_, ?_⟩
  · rw [List.getElem?_map] at hj
    obtain ⟨q, hq, rfl⟩ := Option.map_eq_some_iff.1 hj
    have hjs : j < d'.size := by
      have := (List.getElem?_eq_some_iff.1 hq).1
      simpa using this
    have h9 := (hHd j hjs).1
    rw [Nat.zero_add, getElem!_pos d' j hjs] at h9
    rw [h9]
    have : d'[j] = q := by
      have h8 := (List.getElem?_eq_some_iff.1 hq).2
      simpa using h8
    rw [this]
  · have hpm := hp.2.2
    rw [ext_all d' ln hd, ext_all _ ln hsz] at hpm
    rw [List.mem_map]
    constructor
    · rintro ⟨q, _, rfl⟩; exact q.isLt
    · intro hpl
      exact ⟨⟨p, hpl⟩, hpm.mem_iff.2 (by simp), rfl⟩
  · rw [List.pairwise_map, List.pairwise_iff_getElem]
    intro i j hi hj hij
    have hi' : i < d'.size := by simpa using hi
    have hj' : j < d'.size := by simpa using hj
    have h9 := hs i j (Nat.zero_le _) hij (by omega)
    rw [hlt, getElem!_pos d' i hi', getElem!_pos d' j hj'] at h9
    have h9 := of_decide_eq_false h9
    simp only [Array.getElem_toList]
    omega
end

section
theorem wpList_mkXR {t e : TypeId} {z : Value} {by' : Nat} (E : ElT t e z by') (hz : z.oneCell' = true) (hc : z.cells = #[z]) (w : World) {ops : Array Oper} {rest : List Oper} {o : Oper} {a : Act} {Q : Exit → Act → World → Prop} (hg : o.guard = none) (l c : Operand)
    (hop : o.op = Op.makeSlice t l c) (n : Nat) (hl : a.eval l = .int .i64 (n : Int)) (hc' : a.eval c = .int .i64 (n : Int)) (hn : n ≤ 1000)
    (hK : ∀ w', AnsX e w' w.heap.size (some ⟨w.heap.size, 0, none⟩) n n (List.replicate n z) → w.grownBy w' none → wpList Try.prog ops Q rest (a.put o.dst (.slice (some ⟨w.heap.size, 0, none⟩) n n)) w') :
    wpList Try.prog ops Q (o :: rest) a w := by
  obtain ⟨w', hrun, hA, hgr⟩ := run_mkX E hz hc n hn w
  refine wpList_plain hg fun K hK2 => ?_
  unfold Oper.wp
  simp [execOp, hop, hl, hc', hrun, Result.andThen]
  exact hK2 _ _ (hK w' hA hgr)
theorem cell_ltR {w : World} {b o : Nat} {v : Value} (h : w.cell? ⟨b, o, none⟩ = some v) : b < w.heap.size := by
  unfold World.cell? at h
  by_cases hb : b < w.heap.size
  · exact hb
  · rw [Array.getElem?_eq_none (by show w.heap.size ≤ b; omega)] at h
    cases h
theorem cell_grR {w w' : World} {b o : Nat} {v : Value} (h : w.cell? ⟨b, o, none⟩ = some v) (hg : w.grownBy w' none) : w'.cell? ⟨b, o, none⟩ = some v := cell_grown h hg (cell_ltR h) (by simp)
set_option maxHeartbeats 16000000 in
/-- the places of passes, the latest first -/
theorem lastFirst_any (w : World) (la : Option Addr) (ln lc : Nat) (F : Nat → Pa) (hP : RdPa w la ln lc F) (h1000 : ln ≤ 1000) :
    Calls Try.prog 21 #[.slice la ln lc] w fun e w' => ∃ (go : Nat) (O : List Nat), e = .returned (.slice (some ⟨go, 0, none⟩) ln ln) ∧ O.length = ln ∧ (∀ j p : Nat, O[j]? = some p → w'.cell? ⟨go, j, none⟩ = some (.int .i64 (p : Int))) ∧ (∀ p, p ∈ O ↔ p < ln) ∧ O.Pairwise (fun a b => (F b).fr ≤ (F a).fr) ∧ w.grownBy w' none := by
  have hmx := hP.max
  have hle := hP.le
  unfold maxLen at hmx
  have b1 := BxS.new w 22 #[.slice la ln lc]
  have G1 := World.grownBy_alloc w (.cells #[.slice la ln lc] 22) none
  go_enter Try.func21, Try.ntmps21
  refine wp_seq_k fun K0 hK0 => ?_
  have HK0 : Hid _ := hK0
  clear hK0
  go_wp2
  refine HK0.out _ _ ?_
  clear HK0
  generalize w.alloc (.cells #[.slice la ln lc] 22) = w1 at *
  have hg1 : w.heap.size ≤ w.heap.size := Nat.le_refl _
  obtain ⟨g1, hg1e⟩ : ∃ g, w.heap.size = g := ⟨_, rfl⟩
  rw [hg1e] at b1 ⊢
  have hg1 : w.heap.size ≤ g1 := Nat.le_of_eq hg1e
  clear hg1e
  have hg1s := b1.lt
  have c1 := b1.cell1
  refine wp_seq_k fun K1 hK1 => ?_
  have HK1 : Hid _ := hK1
  clear hK1
  go_wp2_with (at_make; refine wpList_mkXR Try.elN rfl rfl w1 rfl _ _ rfl ln rfl rfl h1000 ?_; intro w2 hA2 G2)
  refine HK1.out _ _ ?_
  clear HK1
  have b12 := b1.keep G2 (by simp)
  have hgo1 : w1.heap.size ≤ w1.heap.size := Nat.le_refl _
  obtain ⟨go, hgo⟩ : ∃ g, w1.heap.size = g := ⟨_, rfl⟩
  rw [hgo] at hA2 ⊢
  have hgs : w1.heap.size ≤ go := Nat.le_of_eq hgo
  clear hgo hgo1
  have hne1 : g1 ≠ go := by omega
  have G12 := grown_trans G1 G2
  have hwgo : w.heap.size ≤ go := Nat.le_trans G1.size hgs
  refine wp_seq_k fun K2 hK2 => ?_
  have HK2 : Hid _ := hK2
  clear hK2
  go_wp2
  go_loopw [10, 4] (fun v10 v4 wr => ∃ (k : Nat) (X : List Value), k ≤ ln ∧ v10 = .int .i64 k ∧ AnsX 3 wr go (some ⟨go, 0, none⟩) ln ln X ∧ (∀ j : Nat, j < k → X[j]? = some (.int .i64 (j : Int))) ∧ w.grownBy wr none ∧ BxS wr g1 22 #[.slice la ln lc]) (fun v10 v4 _ => ln - (intOf v10).toNat)
  case atStart => exact ⟨0, _, Nat.zero_le _, rfl, hA2, fun j hj => absurd hj (by omega), G12, b12⟩
  case round =>
    obtain ⟨k, X, hk, rfl, hA, hX, GR, b1r⟩ := hrel
    by_cases hlt : k < ln
    · have lk : (k : Int) < (ln : Int) := by omega
      have hXl := hA.len
      obtain ⟨u, hu⟩ : ∃ u, X[k]? = some u := ⟨_, List.getElem?_eq_getElem (by omega)⟩
      have ck := hA.cell k u hu
      clear hu
      have fk := hA.free k
      have hA' := hA.set k (.int .i64 (k : Int)) rfl
      have gs := grown_set wr go k (.int .i64 (k : Int))
      have HX : Hid _ := hX
      clear hX hXl
      go_wp2
      go_roundw
      case rel =>
        refine ⟨k + 1, _, by omega, by go_num, hA', fun j hj => ?_, grown_far GR gs (fun z e => by cases e; exact hwgo), b1r.keep gs (by simp [hne1])⟩
        have hXl := hA.len
        by_cases e : j = k
        · rw [e, List.getElem?_set_self (by omega)]
        · rw [List.getElem?_set_ne (by omega)]
          exact HX.out j (by omega)
      case measure => simp [intOf] <;> omega
    · obtain rfl : k = ln := by omega
      have lk : ¬ (k : Int) < (k : Int) := by omega
      have HX : Hid _ := hX
      clear hX
      go_wp2
      refine HK2.out _ _ ?_
      clear HK2
      by_cases h0 : k = 0
      · subst h0
        have hcon := AnyF.slices_SortFunc_none (P := Try.prog) (ρ := sortI_ren) { sortI with } (some ⟨go, 0, none⟩) 0 (.func (.func 29) #[] #[.pointer (some ⟨g1, 0, none⟩)]) wr
        change Calls Try.prog 28 _ _ _ at hcon
        go_wp2_with (go_at_call 28; refine hcon.mono ?_; rintro e w5 ⟨rfl, hw5⟩; rw [hw5]; clear hw5)
        first | go_ret | skip
        exact ⟨go, [], rfl, rfl, (fun j p h => by cases h), (fun p => ⟨(fun h => by cases h), (fun h => absurd h (by omega))⟩), List.Pairwise.nil, GR⟩
      · obtain ⟨lb, lf, rfl, hlb, hlr⟩ := (hP.keep GR).at' (by omega)
        have hlb0 : lb < w.heap.size := by
          obtain ⟨b, o, e, hb, _⟩ := hP.at' (by omega)
          cases e
          exact hb
        have hgos : go < wr.heap.size := by
          have := hA.lt go rfl
          exact this
        have hcon := sortP_any wr g1 lb lf k lc go F b1r ⟨hle, hmx⟩ (by omega) hlr hlb (by omega) hne1 hgos (fun j hj => ⟨hA.cell j _ (HX.out j hj), hA.free j⟩) h1000
        clear hlr
        go_wp2_with (go_at_call 28; refine hcon.mono ?_; rintro e w5 ⟨rfl, G5, O, hOl, hOc, hOm, hOp⟩)
        first | go_ret | skip
        exact ⟨go, O, rfl, hOl, hOc, hOm, hOp, grown_far GR G5 (fun z e => by cases e; exact hwgo)⟩
end
end Go.Proofs.Ytpcejajijaphbaa
