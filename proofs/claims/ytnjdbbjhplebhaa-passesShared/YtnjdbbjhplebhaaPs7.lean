import Derived.Deep.CutBlock
import Derived.Test.YtnjdbbjhplebhaaPs6
namespace Go.Proofs.Ytnjdbbjhplebhaa
open Go.RowKit
set_option maxRecDepth 100000
set_option linter.unusedVariables false
set_option linter.unusedSimpArgs false

section
theorem wrap_inP (x : Int) (h1 : -9223372036854775808 ≤ x) (h2 : x ≤ 9223372036854775807) : IntKind.i64.wrap x = x := by
  first
    | exact wrap_i64 x h1 h2
    | (simp [IntKind.wrap]; omega)
    | (unfold IntKind.wrap; simp [IntKind.signed, IntKind.bits, Int.bmod]; omega)
def tJ (j : Jb) : T3 := ⟨j.fr, j.by', j.by8⟩
/-- the last tick behind all windows -/
def enW (W : Nat → Jb) : Nat → Nat
  | 0 => 0
  | n + 1 => max (enW W n) (W n).by'
theorem enW_le (W : Nat → Jb) : ∀ n i, i < n → (W i).by' ≤ enW W n
  | 0, i, h => by omega
  | n + 1, i, h => by
    show _ ≤ max (enW W n) (W n).by'
    by_cases e : i = n
    · subst e
      exact Nat.le_max_right _ _
    · exact Nat.le_trans (enW_le W n i (by omega)) (Nat.le_max_left _ _)
theorem enW_ub (W : Nat → Jb) (m : Nat) : ∀ n, (∀ i, i < n → (W i).by' ≤ m) → enW W n ≤ m
  | 0, _ => Nat.zero_le _
  | n + 1, h => Nat.max_le.2 ⟨enW_ub W m n (fun i hi => h i (by omega)), h n (by omega)⟩
/-- how many bytes can go in a tick -/
def rtW (W : Nat → Jb) (n t : Nat) : Nat := sumF (fun i => if (W i).fr ≤ t ∧ t < (W i).by' then (W i).by8 else 0) n
/-- what is added and taken away at which tick -/
def dfW (W : Nat → Jb) : Nat → Nat → Int
  | 0 => fun _ => 0
  | n + 1 => atG (atG (dfW W n) (W n).fr (dfW W n (W n).fr + (W n).by8)) (W n).by' (atG (dfW W n) (W n).fr (dfW W n (W n).fr + (W n).by8) (W n).by' - (W n).by8)
def SI (D : Nat → Int) : Nat → Int
  | 0 => D 0
  | t + 1 => SI D t + D (t + 1)
theorem SI_at (D : Nat → Int) (k : Nat) (x : Int) : ∀ t, SI (atG D k (D k + x)) t = SI D t + (if k ≤ t then x else 0)
  | 0 => by
    show atG D k (D k + x) 0 = D 0 + _
    unfold atG
    by_cases e : k = 0
    · subst e; simp
    · rw [if_neg (fun x : (0 : Nat) = k => e x.symm), if_neg (by omega)]; omega
  | t + 1 => by
    show SI _ t + atG D k (D k + x) (t + 1) = SI D t + D (t + 1) + _
    rw [SI_at D k x t]
    unfold atG
    by_cases e : k = t + 1
    · subst e
      rw [if_pos rfl, if_neg (by omega), if_pos (by omega)]; omega
    · rw [if_neg (fun x : t + 1 = k => e x.symm)]
      by_cases h : k ≤ t
      · rw [if_pos h, if_pos (by omega)]; omega
      · rw [if_neg h, if_neg (by omega)]; omega
theorem SI_zero : ∀ t, SI (fun _ => 0) t = 0
  | 0 => rfl
  | t + 1 => by show SI _ t + 0 = 0; rw [SI_zero t]; rfl
theorem SI_df (W : Nat → Jb) (t : Nat) : ∀ n, (∀ i, i < n → (W i).fr ≤ (W i).by') → SI (dfW W n) t = (rtW W n t : Int)
  | 0, _ => SI_zero t
  | n + 1, h => by
    have h1 := SI_df W t n (fun i hi => h i (by omega))
    have h2 := h n (by omega)
    show SI (atG (atG (dfW W n) _ _) _ (_ - _)) t = ((rtW W n t + (if (W n).fr ≤ t ∧ t < (W n).by' then (W n).by8 else 0) : Nat) : Int)
    rw [show ∀ a b : Int, a - b = a + -b from fun a b => rfl, SI_at, SI_at, h1]
    by_cases a : (W n).fr ≤ t
    · by_cases b : (W n).by' ≤ t
      · rw [if_pos a, if_pos b, if_neg (by omega)]; omega
      · rw [if_pos a, if_neg b, if_pos ⟨a, by omega⟩]; omega
    · rw [if_neg a, if_neg (by omega), if_neg (by omega)]; omega
theorem df_bd (W : Nat → Jb) : ∀ n, (∀ i, i < n → (W i).by8 ≤ 1000000) → ∀ k, -(n * 1000000 : Int) * 2 ≤ dfW W n k ∧ dfW W n k ≤ (n * 1000000 : Int) * 2
  | 0, _, k => ⟨by show _ ≤ (0 : Int); omega, by show (0 : Int) ≤ _; omega⟩
  | n + 1, h, k => by
    have h1 := df_bd W n (fun i hi => h i (by omega))
    have h2 := h n (by omega)
    have a1 := h1 k
    have a2 := h1 (W n).fr
    have a3 := h1 (W n).by'
    show _ ≤ atG (atG _ _ _) _ _ k ∧ atG (atG _ _ _) _ _ k ≤ _
    unfold atG
    generalize dfW W n k = x1 at *
    generalize dfW W n (W n).fr = x2 at *
    generalize dfW W n (W n).by' = x3 at *
    split
    · split <;> omega
    · split <;> omega
theorem rt_bd (W : Nat → Jb) (t n : Nat) (h : ∀ i, i < n → (W i).by8 ≤ 1000000) : rtW W n t ≤ n * 1000000 := by
  induction n with
  | zero => simp [rtW, sumF]
  | succ n ih =>
    have h1 := ih (fun i hi => h i (by omega))
    have h2 := h n (by omega)
    have h3 : rtW W (n + 1) t = rtW W n t + (if (W n).fr ≤ t ∧ t < (W n).by' then (W n).by8 else 0) := rfl
    rw [h3, Nat.succ_mul]
    refine Nat.add_le_add h1 ?_
    split
    · exact h2
    · exact Nat.zero_le _
/-- the row behind so many rounds of adding up -/
def PI' (D : Nat → Int) (k j : Nat) : Int := if j ≤ k then SI D j else D j
theorem PI_zero (D : Nat → Int) : PI' D 0 = D := by
  funext j
  unfold PI'
  split
  · rename_i h
    obtain rfl : j = 0 := by omega
    rfl
  · rfl
theorem PI_step (D : Nat → Int) (k : Nat) : atG (PI' D k) (k + 1) (PI' D k (k + 1) + PI' D k k) = PI' D (k + 1) := by
  funext j
  unfold atG PI'
  rw [if_neg (by omega : ¬ k + 1 ≤ k), if_pos (Nat.le_refl k)]
  by_cases e : j = k + 1
  · subst e
    rw [if_pos rfl, if_pos (Nat.le_refl _)]
    show _ = SI D k + D (k + 1)
    omega
  · rw [if_neg e]
    by_cases h : j ≤ k
    · rw [if_pos h, if_pos (by omega)]
    · rw [if_neg h, if_neg (by omega)]
theorem inL_eq {G K : Nat → Int} {n : Nat} (h : ∀ i, i < n → G i = K i) : inL G n = inL K n := by
  unfold inL
  refine List.map_congr_left fun i hi => ?_
  rw [h i (List.mem_range.1 hi)]
theorem InB.eq {w : World} {g n : Nat} {G K : Nat → Int} (h : InB w g n G) (e : ∀ i, i < n → G i = K i) : InB w g n K := by
  unfold InB at *
  rw [← inL_eq e]
  exact h
/-- a row of noughts is made -/
theorem inL_zero (n : Nat) : (inL (fun _ => 0) n).toArray = Array.replicate n (.int .i64 0) := by
  unfold inL
  rw [List.map_const']
  simp
theorem Try.elI : ElT 24 3 (.int .i64 0) 8 := ⟨Try.underlying24, by kernel_rfl, rfl, by decide⟩
theorem wpList_mkIn {w : World} {ops : Array Oper} {rest : List Oper} {o : Oper} {a : Act} {Q : Exit → Act → World → Prop} (hg : o.guard = none) (l c : Operand)
    (hop : o.op = Op.makeSlice 24 l c) (n : Nat) (hl : a.eval l = .int .i64 (n : Int)) (hc : a.eval c = .int .i64 (n : Int)) (hn : n ≤ 1000000000)
    (hK : ∀ w', InB w' w.heap.size n (fun _ => 0) → w.grownBy w' none → wpList Try.prog ops Q rest (a.put o.dst (.slice (some ⟨w.heap.size, 0, none⟩) n n)) w') :
    wpList Try.prog ops Q (o :: rest) a w := by
  obtain ⟨i0, hi, hz0, hz1, hz2⟩ := info_parts Try.elI.inf
  obtain ⟨w', hrun, r1, r2⟩ := run_make_full (P := Try.prog) w w.heap.size 24 3 i0 _ 1 Try.elI.und hi hz0 hz1 .i64 .i64 n (by rw [hz2]; omega) (by unfold maxLen; omega) (Nat.le_refl _)
  refine wpList_plain hg fun K hK2 => ?_
  unfold Oper.wp
  simp [execOp, hop, hl, hc, hrun, Result.andThen]
  refine hK2 _ _ (hK w' ?_ r2)
  rw [Nat.mul_one, show (Value.int .i64 0).cells = #[Value.int .i64 0] from rfl, toList_madeCells_one] at r1
  rcases r1.2 with ⟨h, _⟩ | ⟨g, cap, cur, hv, _, hh, h1, _, h3, h4⟩
  · simp at h
  · simp only [Value.slice.injEq, Option.some.injEq, Addr.mk.injEq] at hv
    obtain ⟨⟨hgg, _⟩, _, hcap⟩ := hv
    subst hgg
    subst hcap
    unfold InB BxS
    rw [inL_zero, hh]
    congr 2
    have e : cur.toList.take (n * 1) = cur.toList := List.take_of_length_le (by rw [Array.length_toList]; omega)
    rw [e] at h4
    exact Array.ext' (by rw [h4]; simp)

set_option maxHeartbeats 16000000 in
theorem rooms_any (w : World) (a : Option Addr) (n c : Nat) (W : Nat → Jb) (hW : RdT w a n c (fun i => tJ (W i))) (hok : ∀ i, i < n → (W i).fr ≤ (W i).by' ∧ (W i).by' ≤ 20000 ∧ (W i).by8 ≤ 1000000) (hn : n ≤ 200) :
    Calls Try.prog 16 #[.slice a n c] w fun e w' => ∃ ga, e = .returned (.slice (some ⟨ga, 0, none⟩) (enW W n) (enW W n + 1)) ∧ InB w' ga (enW W n + 1) (fun t => (rtW W n t : Int)) ∧ w.heap.size ≤ ga ∧ w.grownBy w' none := by
  have HW : Hid _ := hW
  have HOK : Hid _ := hok
  clear hW hok
  go_enter Try.func16, Try.ntmps16
  refine wp_seq_k fun K0 hK0 => ?_
  have HK0 : Hid _ := hK0
  clear hK0
  go_wp2
  refine HK0.out _ _ ?_
  clear HK0
  refine wp_seq_k fun K1 hK1 => ?_
  have HK1 : Hid _ := hK1
  clear hK1
  go_wp2
  refine HK1.out _ _ ?_
  clear HK1
  refine wp_seq_k fun K2 hK2 => ?_
  have HK2 : Hid _ := hK2
  clear hK2
  go_wp2
  go_loopw [12, 3] (fun v12 v3 wr => ∃ k : Nat, k ≤ n ∧ v12 = .int .i64 (k : Nat) ∧ v3 = .int .i64 (enW W k : Nat) ∧ w.grownBy wr none) (fun v12 v3 _ => n - (intOf v12).toNat)
  case atStart => exact ⟨0, Nat.zero_le _, rfl, rfl, World.grownBy.refl _ _⟩
  case round =>
    obtain ⟨k, hk, rfl, rfl, hg⟩ := hrel
    by_cases hlt : k < n
    · have lk : (k : Int) < (n : Int) := by omega
      obtain ⟨b, off, ha, _, hr⟩ := (HW.out.keep hg).at' (by omega)
      have hr := hr k hlt
      have c0 := hr 0 _ rfl
      have c1 := hr 1 _ rfl
      have c2 := hr 2 _ rfl
      simp only [Nat.add_zero, tJ] at c0 c1 c2
      subst ha
      obtain ⟨o1, o2, o3⟩ := HOK.out k hlt
      have he := enW_ub W 20000 k (fun i hi => (HOK.out i (by omega)).2.1)
      have hmx : max ((enW W k : Nat) : Int) ((W k).by' : Int) = ((enW W (k + 1) : Nat) : Int) := by
        show _ = ((max (enW W k) (W k).by' : Nat) : Int)
        omega
      clear hr
      go_wp2
      go_roundw
      case rel => exact ⟨k + 1, by omega, by go_num, rfl, grown_trans hg (World.grownBy_alloc _ _ _)⟩
      case measure => simp [intOf] <;> omega
    · obtain rfl : k = n := by omega
      have lk : ¬ (k : Int) < (k : Int) := by omega
      have he := enW_ub W 20000 k (fun i hi => (HOK.out i (by omega)).2.1)
      go_wp2
      clear lk
      (try simp only [Exit.inBlock, Exit.then])
      have e1 := enW_le W k
      have e3 : ∀ i, i < k → (W i).fr < enW W k + 1 := fun i hi => by have := e1 i hi; have := (HOK.out i hi).1; omega
      have e2 : ∀ i, i < k → (W i).by' < enW W k + 1 := fun i hi => by have := e1 i hi; omega
      have HRT : Hid (∀ t, SI (dfW W k) t = (rtW W k t : Int)) := fun t => SI_df W t k (fun i hi => (HOK.out i hi).1)
      obtain ⟨e, hee⟩ : ∃ e, e = enW W k := ⟨_, rfl⟩
      rw [← hee] at he e3 e2 ⊢
      have HE2 : Hid _ := e2
      have HE3 : Hid _ := e3
      have HEE : Hid _ := hee
      clear e1 e2 e3 hee
      have HGW : Hid _ := hg
      clear hg
      refine HK2.out _ _ ?_
      clear HK2
      refine wp_seq_k fun K3 hK3 => ?_
      have HK3 : Hid _ := hK3
      clear hK3
      have s1 : True := trivial
      obtain ⟨E, hE⟩ : ∃ E, E = e + 1 := ⟨_, rfl⟩
      have hE1 : (e : Int) + 1 = (E : Int) := by omega
      have HEq : Hid _ := hE
      clear hE
      have hEb : E ≤ 1000000000 := by have := HEq.out; omega
      have hEi : (E : Int) ≤ 1000000000 := by omega
      go_wp2_with (first
        | (at_make; have _t := s1; clear s1; refine wpList_mkIn rfl _ _ rfl E rfl rfl hEb ?_; intro w1 hi1 g1))
      have HGL : Hid (w.heap.size ≤ wr.heap.size) := HGW.out.size
      generalize wr.heap.size = gl at *
      refine HK3.out _ _ ?_
      clear HK3
      refine wp_seq_k fun K4 hK4 => ?_
      have HK4 : Hid _ := hK4
      clear hK4
      go_wp2
      go_loopw [26] (fun v26 wx => ∃ j : Nat, j ≤ k ∧ v26 = .int .i64 (j : Nat) ∧ InB wx gl E (dfW W j) ∧ w1.grownBy wx (some gl)) (fun v26 _ => k - (intOf v26).toNat)
      case atStart => exact ⟨0, Nat.zero_le _, rfl, hi1, World.grownBy.refl _ _⟩
      case round =>
        obtain ⟨j, hj, rfl, hij, hgj⟩ := hrel
        by_cases hlt2 : j < k
        · have lk : (j : Int) < (k : Int) := by omega
          have hlg : w.heap.size ≤ gl := HGL.out
          have GX : w.grownBy wr none := grown_far (grown_trans HGW.out g1) hgj (fun q e => by cases e; exact hlg)
          obtain ⟨b, off, ha, hbl, hr⟩ := (HW.out.keep GX).at' (by omega)
          have hr := hr j hlt2
          have hbd := df_bd W j (fun i hi => (HOK.out i (by omega)).2.2)
          obtain ⟨o1, o2, o3⟩ := HOK.out j hlt2
          have hf3 := HE3.out j hlt2
          have ht2 := HE2.out j hlt2
          have hdf : dfW W (j + 1) = atG (atG (dfW W j) (W j).fr (dfW W j (W j).fr + (W j).by8)) (W j).by' (atG (dfW W j) (W j).fr (dfW W j (W j).fr + (W j).by8) (W j).by' - (W j).by8) := rfl
          obtain ⟨f, hf⟩ : ∃ f, f = (W j).fr := ⟨_, rfl⟩
          obtain ⟨t, ht⟩ : ∃ t, t = (W j).by' := ⟨_, rfl⟩
          obtain ⟨r, hrr⟩ : ∃ r, r = (W j).by8 := ⟨_, rfl⟩
          obtain ⟨D, hD⟩ : ∃ D, D = dfW W j := ⟨_, rfl⟩
          have c0 := hr 0 _ rfl
          have c1 := hr 1 _ rfl
          have c2 := hr 2 _ rfl
          simp only [Nat.add_zero, tJ] at c0 c1 c2
          rw [← hf, ← ht, ← hrr, ← hD] at hdf
          rw [← hf] at c0 o1 hf3
          rw [← ht] at c1 o1 o2 ht2
          rw [← hrr] at c2 o3
          rw [← hD] at hij hbd
          rw [← HEq.out] at hf3 ht2
          clear hf ht hrr hD hr
          subst ha
          have GA := World.grownBy_alloc wr (.cells #[.int .i64 (f : Nat), .int .i64 (t : Nat), .int .i64 (r : Nat)] 32) none
          have ba := BxS.new wr 32 #[.int .i64 (f : Nat), .int .i64 (t : Nat), .int .i64 (r : Nat)]
          have hia := hij.keep GA (by simp)
          have hnx : wr.heap.size ≠ gl := fun e => by have := hij.lt; omega
          go_upto_region 11 with fail
          generalize hgx : wr.heap.size = gx at *
          generalize wr.alloc (.cells #[.int .i64 (f : Nat), .int .i64 (t : Nat), .int .i64 (r : Nat)] 32) = wa at *
          have Gd := grown_drew wa none
          have SSn : BxS wa.drew gx 32 #[.int .i64 (f : Nat), .int .i64 (t : Nat), .int .i64 (r : Nat)] ∧ InB wa.drew gl E D := ⟨ba.keep Gd (by simp), hia.keep Gd (by simp)⟩
          refine wp_regionM (fun wz => BxS wz gx 32 #[.int .i64 (f : Nat), .int .i64 (t : Nat), .int .i64 (r : Nat)] ∧ InB wz gl E D) [9] #[false, false, false, false, false, false, false, false, false, false] rfl (by kernel_rfl) ?_
          generalize wa.drew = wd at *
          have hfi : (f : Int) < (E : Int) := by omega
          have hti : (t : Int) < (E : Int) := by omega
          have hb1 := hbd f
          have jb : (j : Int) ≤ 200 := by omega
          have q1 : -9000000000 ≤ D f + (r : Int) := by omega
          have q2 : D f + (r : Int) ≤ 9000000000 := by omega
          have hwr : IntKind.i64.wrap (D f + (r : Int)) = D f + (r : Int) := wrap_inP _ (by omega) (by omega)
          have HFE : Hid (f < E) := hf3
          have HTE : Hid (t < E) := ht2
          have SS := SSn
          refine wpAnyY_takeF 0 (.slice (some ⟨gl, 0, none⟩) E E) rfl (by kernel_rfl) (fun _ _ _ h => h) rfl (by intro wz; go_simp; try rfl) ?_
          try simp only [List.getElem_toArray, List.getElem_cons_succ, List.getElem_cons_zero, Act.put, List.setIfInBounds_toArray, List.set_cons_zero, List.set_cons_succ]
          refine wpAnyY_takeF 1 (.pointer (some ⟨gx, 0, none⟩)) rfl (by kernel_rfl) (fun _ _ _ h => h) rfl (by intro wz; go_simp; try rfl) ?_
          try simp only [List.getElem_toArray, List.getElem_cons_succ, List.getElem_cons_zero, Act.put, List.setIfInBounds_toArray, List.set_cons_zero, List.set_cons_succ]
          refine wpAnyY_take [9] 2 (.int .i64 (f : Nat)) rfl (by kernel_rfl) (fun _ _ _ h => h) SS rfl (by rintro wz ⟨z1, z2⟩; have hc := BxS.cell z1 0 (by simp); simp at hc; go_simp) ?_
          try simp only [List.getElem_toArray, List.getElem_cons_succ, List.getElem_cons_zero, Act.put, List.setIfInBounds_toArray, List.set_cons_zero, List.set_cons_succ]
          refine wpAnyY_takeF 3 (.pointer (some ⟨gl, f, none⟩)) rfl (by kernel_rfl) (fun _ _ _ h => h) rfl (by intro wz; go_simp; try rfl) ?_
          try simp only [List.getElem_toArray, List.getElem_cons_succ, List.getElem_cons_zero, Act.put, List.setIfInBounds_toArray, List.set_cons_zero, List.set_cons_succ]
          refine wpAnyY_take [9] 4 (.int .i64 (D f)) rfl (by kernel_rfl) (fun _ _ _ h => h) SS rfl (by rintro wz ⟨z1, z2⟩; have hc := z2.cell HFE.out; go_simp) ?_
          try simp only [List.getElem_toArray, List.getElem_cons_succ, List.getElem_cons_zero, Act.put, List.setIfInBounds_toArray, List.set_cons_zero, List.set_cons_succ]
          refine wpAnyY_takeF 5 (.pointer (some ⟨gx, 2, none⟩)) rfl (by kernel_rfl) (fun _ _ _ h => h) rfl (by intro wz; go_simp; try rfl) ?_
          try simp only [List.getElem_toArray, List.getElem_cons_succ, List.getElem_cons_zero, Act.put, List.setIfInBounds_toArray, List.set_cons_zero, List.set_cons_succ]
          refine wpAnyY_take [9] 6 (.int .i64 (r : Nat)) rfl (by kernel_rfl) (fun _ _ _ h => h) SS rfl (by rintro wz ⟨z1, z2⟩; have hc := BxS.cell z1 2 (by simp); simp at hc; go_simp) ?_
          try simp only [List.getElem_toArray, List.getElem_cons_succ, List.getElem_cons_zero, Act.put, List.setIfInBounds_toArray, List.set_cons_zero, List.set_cons_succ]
          refine wpAnyY_takeF 7 (.int .i64 (D f + (r : Int))) rfl (by kernel_rfl) (fun _ _ _ h => h) rfl (by intro wz; go_simp; try rfl) ?_
          try simp only [List.getElem_toArray, List.getElem_cons_succ, List.getElem_cons_zero, Act.put, List.setIfInBounds_toArray, List.set_cons_zero, List.set_cons_succ]
          refine wpAnyY_takeF 8 (.pointer (some ⟨gl, f, none⟩)) rfl (by kernel_rfl) (fun _ _ _ h => h) rfl (by intro wz; go_simp; try rfl) ?_
          try simp only [List.getElem_toArray, List.getElem_cons_succ, List.getElem_cons_zero, Act.put, List.setIfInBounds_toArray, List.set_cons_zero, List.set_cons_succ]
          refine wpAnyY_oneB 9 rfl (by kernel_rfl) (fun KK hKK => ?_)
          refine step_of_listR rfl (wpList_stI rfl (.tmp 38) (.tmp 37) rfl gl E f D (D f + (r : Int)) rfl rfl SSn.2 HFE.out ?_)
          intro w4 hi4 g4
          refine wpList_nil ?_
          show KK _ _
          refine hKK _ _ (fun _ h => absurd (by decide) h) ?_
          try simp only [List.getElem_toArray, List.getElem_cons_succ, List.getElem_cons_zero, Act.put, List.setIfInBounds_toArray, List.set_cons_zero, List.set_cons_succ]
          refine wpAnyY_doneB (by kernel_rfl) ?_ _
          simp only [Exit.then]
          apply_assumption
          have G1d := Gd
          have hbw : BxS w4 gx 32 #[.int .i64 (f : Nat), .int .i64 (t : Nat), .int .i64 (r : Nat)] := SSn.1.keep g4 (fun e => hnx (Option.some.inj e))
          obtain ⟨D1, hD1⟩ : ∃ D1, D1 = atG D f (D f + (r : Int)) := ⟨_, rfl⟩
          rw [← hD1] at hi4 hdf
          have hbt : -9000000000 ≤ D1 t ∧ D1 t ≤ 9000000000 := by
            have h1 := hbd t
            have h2 := hbd f
            rw [hD1]
            unfold atG
            split <;> omega
          obtain ⟨q3, q4⟩ := hbt
          have hwr2 : IntKind.i64.wrap (D1 t - (r : Int)) = D1 t - (r : Int) := wrap_inP _ (by omega) (by omega)
          have HD1 : Hid _ := hdf
          clear hwr hb1 q1 q2 hD1 hdf SS hbd
          have GWd : Hid _ := G1d
          have HG4 : Hid _ := g4
          have HGA : Hid _ := GA
          clear G1d Gd GA g4 hia SSn
          have Gd := grown_drew w4 none
          have SSn : BxS w4.drew gx 32 #[.int .i64 (f : Nat), .int .i64 (t : Nat), .int .i64 (r : Nat)] ∧ InB w4.drew gl E D1 := ⟨hbw.keep Gd (by simp), hi4.keep Gd (by simp)⟩
          refine wp_regionM (fun wz => BxS wz gx 32 #[.int .i64 (f : Nat), .int .i64 (t : Nat), .int .i64 (r : Nat)] ∧ InB wz gl E D1) [9] #[false, false, false, false, false, false, false, false, false, false] rfl (by kernel_rfl) ?_
          generalize w4.drew = w5 at *
          have SS := SSn
          refine wpAnyY_takeF 0 (.slice (some ⟨gl, 0, none⟩) E E) rfl (by kernel_rfl) (fun _ _ _ h => h) rfl (by intro wz; go_simp; try rfl) ?_
          try simp only [List.getElem_toArray, List.getElem_cons_succ, List.getElem_cons_zero, Act.put, List.setIfInBounds_toArray, List.set_cons_zero, List.set_cons_succ]
          refine wpAnyY_takeF 1 (.pointer (some ⟨gx, 1, none⟩)) rfl (by kernel_rfl) (fun _ _ _ h => h) rfl (by intro wz; go_simp; try rfl) ?_
          try simp only [List.getElem_toArray, List.getElem_cons_succ, List.getElem_cons_zero, Act.put, List.setIfInBounds_toArray, List.set_cons_zero, List.set_cons_succ]
          refine wpAnyY_take [9] 2 (.int .i64 (t : Nat)) rfl (by kernel_rfl) (fun _ _ _ h => h) SS rfl (by rintro wz ⟨z1, z2⟩; have hc := BxS.cell z1 1 (by simp); simp at hc; go_simp) ?_
          try simp only [List.getElem_toArray, List.getElem_cons_succ, List.getElem_cons_zero, Act.put, List.setIfInBounds_toArray, List.set_cons_zero, List.set_cons_succ]
          refine wpAnyY_takeF 3 (.pointer (some ⟨gl, t, none⟩)) rfl (by kernel_rfl) (fun _ _ _ h => h) rfl (by intro wz; go_simp; try rfl) ?_
          try simp only [List.getElem_toArray, List.getElem_cons_succ, List.getElem_cons_zero, Act.put, List.setIfInBounds_toArray, List.set_cons_zero, List.set_cons_succ]
          refine wpAnyY_take [9] 4 (.int .i64 (D1 t)) rfl (by kernel_rfl) (fun _ _ _ h => h) SS rfl (by rintro wz ⟨z1, z2⟩; have hc := z2.cell HTE.out; go_simp) ?_
          try simp only [List.getElem_toArray, List.getElem_cons_succ, List.getElem_cons_zero, Act.put, List.setIfInBounds_toArray, List.set_cons_zero, List.set_cons_succ]
          refine wpAnyY_takeF 5 (.pointer (some ⟨gx, 2, none⟩)) rfl (by kernel_rfl) (fun _ _ _ h => h) rfl (by intro wz; go_simp; try rfl) ?_
          try simp only [List.getElem_toArray, List.getElem_cons_succ, List.getElem_cons_zero, Act.put, List.setIfInBounds_toArray, List.set_cons_zero, List.set_cons_succ]
          refine wpAnyY_take [9] 6 (.int .i64 (r : Nat)) rfl (by kernel_rfl) (fun _ _ _ h => h) SS rfl (by rintro wz ⟨z1, z2⟩; have hc := BxS.cell z1 2 (by simp); simp at hc; go_simp) ?_
          try simp only [List.getElem_toArray, List.getElem_cons_succ, List.getElem_cons_zero, Act.put, List.setIfInBounds_toArray, List.set_cons_zero, List.set_cons_succ]
          refine wpAnyY_takeF 7 (.int .i64 (D1 t - (r : Int))) rfl (by kernel_rfl) (fun _ _ _ h => h) rfl (by intro wz; go_simp; try rfl) ?_
          try simp only [List.getElem_toArray, List.getElem_cons_succ, List.getElem_cons_zero, Act.put, List.setIfInBounds_toArray, List.set_cons_zero, List.set_cons_succ]
          refine wpAnyY_takeF 8 (.pointer (some ⟨gl, t, none⟩)) rfl (by kernel_rfl) (fun _ _ _ h => h) rfl (by intro wz; go_simp; try rfl) ?_
          try simp only [List.getElem_toArray, List.getElem_cons_succ, List.getElem_cons_zero, Act.put, List.setIfInBounds_toArray, List.set_cons_zero, List.set_cons_succ]
          refine wpAnyY_oneB 9 rfl (by kernel_rfl) (fun KK hKK => ?_)
          refine step_of_listR rfl (wpList_stI rfl (.tmp 47) (.tmp 46) rfl gl E t D1 (D1 t - (r : Int)) rfl rfl SSn.2 HTE.out ?_)
          intro w6 hi6 g6
          refine wpList_nil ?_
          show KK _ _
          refine hKK _ _ (fun _ h => absurd (by decide) h) ?_
          try simp only [List.getElem_toArray, List.getElem_cons_succ, List.getElem_cons_zero, Act.put, List.setIfInBounds_toArray, List.set_cons_zero, List.set_cons_succ]
          refine wpAnyY_doneB (by kernel_rfl) ?_ _
          (try simp only [Exit.then])
          rw [← HD1.out] at hi6
          have hgg : w1.grownBy w6 (some gl) := (((((hgj.trans (grown_weak HGA.out _)).trans (grown_weak GWd.out _)).trans HG4.out)).trans (grown_weak Gd _)).trans g6
          have HGG : Hid _ := hgg
          have HI6 : Hid _ := hi6
          clear SS SSn hi4 hbw Gd g6 hi6 hgg hgj hij
          go_wp2
          exact ⟨⟨j + 1, by omega, by go_num, HI6.out, HGG.out⟩, by simp [intOf] <;> omega⟩
        · obtain rfl : j = k := by omega
          have lk : ¬ (j : Int) < (j : Int) := by omega
          go_wp2
          (try simp only [Exit.inBlock, Exit.then])
          have GW : Hid (w.grownBy wr none) := grown_far (grown_trans HGW.out g1) hgj (fun q e => by cases e; exact HGL.out)
          have hdb := df_bd W j (fun i hi => (HOK.out i hi).2.2)
          have hrb := fun t => rt_bd W t j (fun i hi => (HOK.out i hi).2.2)
          obtain ⟨D, hD⟩ : ∃ D, D = dfW W j := ⟨_, rfl⟩
          rw [← hD] at hij hdb
          have HRD : Hid (∀ t, SI D t = (rtW W j t : Int)) := by rw [hD]; exact HRT.out
          have HDB : Hid _ := hdb
          have HRB : Hid _ := hrb
          have HJ : Hid (j ≤ 200) := hn
          clear hgj g1 HRT hD hi1 lk hdb hrb
          generalize wr = w7 at *
          refine HK4.out _ _ ?_
          clear HK4
          refine wp_seq_k fun K5 hK5 => ?_
          have HK5 : Hid _ := hK5
          clear hK5
          go_wp2
          go_loopw [50] (fun v50 wx => ∃ p : Nat, p ≤ e ∧ v50 = .int .i64 (p : Nat) ∧ InB wx gl E (PI' D p) ∧ w7.grownBy wx (some gl)) (fun v50 _ => e - (intOf v50).toNat)
          case atStart => exact ⟨0, Nat.zero_le _, rfl, by rw [PI_zero]; exact hij, World.grownBy.refl _ _⟩
          case round =>
            obtain ⟨p, hp, rfl, hip, hgp⟩ := hrel
            by_cases hlt3 : p < e
            · have lk : (p : Int) < (e : Int) := by omega
              obtain ⟨P, hP⟩ : ∃ P, P = p + 1 := ⟨_, rfl⟩
              have hPE : P < E := by have := HEq.out; omega
              have hpE : p < E := by have := HEq.out; omega
              have hp1 : (p : Int) + 1 = (P : Int) := by omega
              have hbd : -900000000 ≤ PI' D p P ∧ PI' D p P ≤ 900000000 ∧ 0 ≤ PI' D p p ∧ PI' D p p ≤ 900000000 := by
                have h1 := HDB.out P
                have h2 := HRB.out p
                have h3 := HRD.out p
                have h4 := HJ.out
                unfold PI'
                rw [if_neg (by omega), if_pos (Nat.le_refl _), h3]
                omega
              obtain ⟨q1, q2, q3, q4⟩ := hbd
              have hst : atG (PI' D p) P (PI' D p P + PI' D p p) = PI' D (p + 1) := by rw [hP]; exact PI_step D p
              have hPc : Hid (P = p + 1) := hP
              obtain ⟨G, hG⟩ : ∃ G, G = PI' D p := ⟨_, rfl⟩
              rw [← hG] at hip q1 q2 q3 q4 hst
              have HST : Hid _ := hst
              have hwr : IntKind.i64.wrap (G P + G p) = G P + G p := wrap_inP _ (by omega) (by omega)
              have hPi : (P : Int) < (E : Int) := by omega
              have hPw : IntKind.i64.wrap (P : Int) = (P : Int) := wrap_inP _ (by omega) (by omega)
              have hpi : (p : Int) < (E : Int) := by omega
              have HPE : Hid (P < E) := hPE
              have HpE : Hid (p < E) := hpE
              have HGP : Hid _ := hgp
              have HE0 : Hid (p < e) := hlt3
              clear hP hG hst q1 q2 q3 q4 hij hgp
              go_upto_region 17 with fail
              have Gd := grown_drew wr none
              have SSn : InB wr.drew gl E G := hip.keep Gd (by simp)
              refine wp_regionM (fun wz => InB wz gl E G) [11] #[false, false, false, false, false, false, false, false, false, false, false, false] rfl (by kernel_rfl) ?_
              generalize wr.drew = wd at *
              have SS := SSn
              refine wpAnyY_takeF 0 (.slice (some ⟨gl, 0, none⟩) E E) rfl (by kernel_rfl) (fun _ _ _ h => h) rfl (by intro wz; go_simp; try rfl) ?_
              try simp only [List.getElem_toArray, List.getElem_cons_succ, List.getElem_cons_zero, Act.put, List.setIfInBounds_toArray, List.set_cons_zero, List.set_cons_succ]
              refine wpAnyY_takeF 1 (.int .i64 (p : Nat)) rfl (by kernel_rfl) (fun _ _ _ h => h) rfl (by intro wz; go_simp; try rfl) ?_
              try simp only [List.getElem_toArray, List.getElem_cons_succ, List.getElem_cons_zero, Act.put, List.setIfInBounds_toArray, List.set_cons_zero, List.set_cons_succ]
              refine wpAnyY_takeF 2 (.int .i64 (P : Nat)) rfl (by kernel_rfl) (fun _ _ _ h => h) rfl (by intro wz; go_simp; try rfl) ?_
              try simp only [List.getElem_toArray, List.getElem_cons_succ, List.getElem_cons_zero, Act.put, List.setIfInBounds_toArray, List.set_cons_zero, List.set_cons_succ]
              refine wpAnyY_takeF 3 (.pointer (some ⟨gl, P, none⟩)) rfl (by kernel_rfl) (fun _ _ _ h => h) rfl (by intro wz; go_simp; try rfl) ?_
              try simp only [List.getElem_toArray, List.getElem_cons_succ, List.getElem_cons_zero, Act.put, List.setIfInBounds_toArray, List.set_cons_zero, List.set_cons_succ]
              refine wpAnyY_take [11] 4 (.int .i64 (G P)) rfl (by kernel_rfl) (fun _ _ _ h => h) SS rfl (by intro wz z2; have hc := InB.cell z2 HPE.out; go_simp) ?_
              try simp only [List.getElem_toArray, List.getElem_cons_succ, List.getElem_cons_zero, Act.put, List.setIfInBounds_toArray, List.set_cons_zero, List.set_cons_succ]
              refine wpAnyY_takeF 5 (.slice (some ⟨gl, 0, none⟩) E E) rfl (by kernel_rfl) (fun _ _ _ h => h) rfl (by intro wz; go_simp; try rfl) ?_
              try simp only [List.getElem_toArray, List.getElem_cons_succ, List.getElem_cons_zero, Act.put, List.setIfInBounds_toArray, List.set_cons_zero, List.set_cons_succ]
              refine wpAnyY_takeF 6 (.int .i64 (p : Nat)) rfl (by kernel_rfl) (fun _ _ _ h => h) rfl (by intro wz; go_simp; try rfl) ?_
              try simp only [List.getElem_toArray, List.getElem_cons_succ, List.getElem_cons_zero, Act.put, List.setIfInBounds_toArray, List.set_cons_zero, List.set_cons_succ]
              refine wpAnyY_takeF 7 (.pointer (some ⟨gl, p, none⟩)) rfl (by kernel_rfl) (fun _ _ _ h => h) rfl (by intro wz; go_simp; try rfl) ?_
              try simp only [List.getElem_toArray, List.getElem_cons_succ, List.getElem_cons_zero, Act.put, List.setIfInBounds_toArray, List.set_cons_zero, List.set_cons_succ]
              refine wpAnyY_take [11] 8 (.int .i64 (G p)) rfl (by kernel_rfl) (fun _ _ _ h => h) SS rfl (by intro wz z2; have hc := InB.cell z2 HpE.out; go_simp) ?_
              try simp only [List.getElem_toArray, List.getElem_cons_succ, List.getElem_cons_zero, Act.put, List.setIfInBounds_toArray, List.set_cons_zero, List.set_cons_succ]
              refine wpAnyY_takeF 9 (.int .i64 (G P + G p)) rfl (by kernel_rfl) (fun _ _ _ h => h) rfl (by intro wz; go_simp; try rfl) ?_
              try simp only [List.getElem_toArray, List.getElem_cons_succ, List.getElem_cons_zero, Act.put, List.setIfInBounds_toArray, List.set_cons_zero, List.set_cons_succ]
              refine wpAnyY_takeF 10 (.pointer (some ⟨gl, P, none⟩)) rfl (by kernel_rfl) (fun _ _ _ h => h) rfl (by intro wz; go_simp; try rfl) ?_
              try simp only [List.getElem_toArray, List.getElem_cons_succ, List.getElem_cons_zero, Act.put, List.setIfInBounds_toArray, List.set_cons_zero, List.set_cons_succ]
              refine wpAnyY_oneB 11 rfl (by kernel_rfl) (fun KK hKK => ?_)
              refine step_of_listR rfl (wpList_stI rfl (.tmp 63) (.tmp 62) rfl gl E P G (G P + G p) rfl rfl SSn HPE.out ?_)
              intro w8 hi8 g8
              refine wpList_nil ?_
              show KK _ _
              refine hKK _ _ (fun _ h => absurd (by decide) h) ?_
              try simp only [List.getElem_toArray, List.getElem_cons_succ, List.getElem_cons_zero, Act.put, List.setIfInBounds_toArray, List.set_cons_zero, List.set_cons_succ]
              refine wpAnyY_doneB (by kernel_rfl) ?_ _
              (try simp only [Exit.then, Exit.inBlock])
              rw [HST.out] at hi8
              have hgg : w7.grownBy w8 (some gl) := (HGP.out.trans (grown_weak Gd _)).trans g8
              have HGG : Hid _ := hgg
              have HI8 : Hid _ := hi8
              clear SS SSn hip Gd g8 hi8 hgg
              go_wp2
              exact ⟨⟨p + 1, HE0.out, by go_num, HI8.out, HGG.out⟩, by have := HE0.out; simp [intOf] <;> omega⟩
            · obtain rfl : p = e := by omega
              have lk : ¬ (p : Int) < (p : Int) := by omega
              go_wp2
              (try simp only [Exit.inBlock, Exit.then])
              have hfin : InB wr gl E (fun t => (rtW W j t : Int)) := hip.eq (fun i hi => by
                have := HEq.out
                unfold PI'
                rw [if_pos (by omega), HRD.out])
              have HFI : Hid _ := hfin
              have HGF : Hid (w.grownBy wr none) := grown_far GW.out hgp (fun q e => by cases e; exact HGL.out)
              have heE : p ≤ E := by have := HEq.out; omega
              clear hfin hip hgp lk hij
              refine HK5.out _ _ ?_
              clear HK5
              go_wp2
              go_ret
              have hE := HEq.out
              have he := HEE.out
              subst hE
              subst he
              exact ⟨gl, rfl, HFI.out, HGL.out, HGF.out⟩
end
end Go.Proofs.Ytnjdbbjhplebhaa
