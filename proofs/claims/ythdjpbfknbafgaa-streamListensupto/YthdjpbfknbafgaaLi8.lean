import Derived.Deep.RegionHeld3
import Derived.Test.YthdjpbfknbafgaaLi7
import Derived.Test.YthdjpbfknbafgaaLi5
namespace Go.Proofs.Ythdjpbfknbafgaa
open Go.RowKit
set_option maxRecDepth 100000
set_option linter.unusedVariables false
set_option linter.unusedSimpArgs false

section
section
variable {P : Program} {ops : Array Oper} {Q : Exit → Act → World → Prop} {md : Region.Mode} {S : World → Prop}
/-- whatever order is picked from here on, and S holds behind every operation but those of Z, the last ones -/
def wpAnyY (P : Program) (md : Region.Mode) (ops : Array Oper) (Q : Exit → Act → World → Prop) (S : World → Prop) (Z : List Nat) : Nat → Array Bool → Act → World → Prop
  | 0, listed, a, w => Region.ready md ops listed = [] ∧ Q .normal a w
  | fuel + 1, listed, a, w =>
    (Region.ready md ops listed = [] → Q .normal a w) ∧
    ∀ i ∈ Region.ready md ops listed, wpOp P ops Q i (fun a' w' => (S w → i ∉ Z → S w') ∧ wpAnyY P md ops Q S Z fuel (listed.setIfInBounds i true) a' w') a w
theorem wpAny_of_Y (Z : List Nat) : ∀ (fuel : Nat) (listed : Array Bool) (a : Act) (w : World), wpAnyY P md ops Q S Z fuel listed a w → wpAny P md ops Q fuel listed a w
  | 0, _, _, _, h => h
  | fuel + 1, _, _, _, h => ⟨h.1, fun i hi => wpOp_mono (fun a' w' h' => wpAny_of_Y Z fuel _ a' w' h'.2) (h.2 i hi)⟩
theorem wpAnyY_first {Z C : List Nat} (hz : ∀ z, z ∈ Z → z ∈ C) {i : Nat} {oi : Oper} {v : Value} (hi : ops[i]? = some oi) (hsel : ∀ (j : Nat) (o : Oper) cs b, ops[j]? = some o → o.op ≠ .select cs b)
    (hQ : ∀ c a w, Q (.panic c) (a.put oi.dst v) w → Q (.panic c) a w) :
    ∀ (fuel : Nat) (listed : Array Bool) (a : Act) (w : World),
      (∀ j oj, ops[j]? = some oj → j ≠ i → listed.getD j true = false → (∀ e ∈ oj.after, Region.binds md e = true → e.on ≠ i) → oi.apart ops oj = true) →
      i ∈ Region.ready md ops listed → waitZ md ops listed i C = true → YieldsIf P ops S oi v a → S w →
      wpAnyY P md ops Q S Z fuel (listed.setIfInBounds i true) (a.put oi.dst v) w → wpAnyY P md ops Q S Z (fuel + 1) listed a w := by
  intro fuel
  induction fuel with
  | zero =>
    intro listed a w _ hr hW hy hS H
    refine ⟨fun h => (by rw [h] at hr; cases hr), fun j hj => ?_⟩
    by_cases hji : j = i
    · subst hji; exact hy.wpOp hi hS ⟨fun h _ => h, H⟩
    · have := ready_mono hj hji
      rw [H.1] at this
      cases this
  | succ fuel ih =>
    intro listed a w hfree hr hW hy hS H
    refine ⟨fun h => (by rw [h] at hr; cases hr), fun j hj => ?_⟩
    by_cases hji : j = i
    · subst hji; exact hy.wpOp hi hS ⟨fun h _ => h, H⟩
    · have hjC := waitZ_no hW hr hj
      have hjz : j ∉ Z := fun e => hjC (hz j e)
      have h1 := H.2 j (ready_mono hj hji)
      obtain ⟨hjun, oj, hoj, hall⟩ := mem_ready.1 hj
      have hnot : ∀ e ∈ oj.after, Region.binds md e = true → e.on ≠ i := fun e he hb heq => by
        have h1 := hall e he hb
        have h0 := (mem_ready.1 hr).1
        rw [heq] at h1
        rcases Nat.lt_or_ge i listed.size with h' | h'
        · simp [h'] at h0 h1; rw [h0] at h1; cases h1
        · simp [Array.getElem?_eq_none h'] at h1
      have h2 := wpOp_putIf hoj (hfree j oj hoj hji hjun hnot) (fun cs b => hsel i oi cs b hi) (fun cs b => hsel j oj cs b hoj) hQ hy h1
      have hfree' : ∀ k ok, ops[k]? = some ok → k ≠ i → (listed.setIfInBounds j true).getD k true = false →
          (∀ e ∈ ok.after, Region.binds md e = true → e.on ≠ i) → oi.apart ops ok = true := fun k ok hk hki hun hno => by
        refine hfree k ok hk hki ?_ hno
        by_cases hjk : j = k
        · subst hjk; exact hjun
        · rw [getD_set_ne true hjk] at hun; exact hun
      refine wpOp_mono (fun a' w' h3 => ⟨h3.2.1, ih (listed.setIfInBounds j true) a' w' hfree' (ready_mono hr (Ne.symm hji)) (waitZ_step hW hjC) h3.1 (h3.2.1 hS hjz) ?_⟩) h2
      rw [Array.setIfInBounds_comm _ _ hji]
      exact h3.2.2
/-- take number i first -/
theorem wpAnyY_take {Z : List Nat} (C : List Nat) (i : Nat) {oi : Oper} (v : Value) {fuel : Nat} {listed : Array Bool} {a : Act} {w : World} (hi : ops[i]? = some oi)
    (hs : ((Z.all fun z => C.contains z) && Region.noSelect ops && Region.free md ops listed i && (Region.ready md ops listed).contains i && waitZ md ops listed i C) = true)
    (hQ : ∀ c a w, Q (.panic c) (a.put oi.dst v) w → Q (.panic c) a w) (hS : S w) (hw : Region.wanted oi (yielded ops a.tmps) = true) (hy : ∀ w, S w → (execOp a.eval oi).run P w = .ok (.value v) w)
    (h : wpAnyY P md ops Q S Z fuel (listed.setIfInBounds i true) (a.put oi.dst v) w) : wpAnyY P md ops Q S Z (fuel + 1) listed a w := by
  simp only [Bool.and_eq_true, List.contains_iff_mem, List.all_eq_true] at hs
  exact wpAnyY_first hs.1.1.1.1 hi (Region.noSelect_spec hs.1.1.1.2) hQ fuel listed a w (Region.free_spec hi hs.1.1.2) hs.1.2 hs.2 (.inl ⟨hw, hy⟩) hS h
/-- one alone may come up -/
theorem wpAnyY_one {Z : List Nat} (i : Nat) {o : Oper} {fuel : Nat} {listed : Array Bool} {a : Act} {w : World} (ho : ops[i]? = some o) (hr : Region.ready md ops listed = [i])
    (h : ∀ K' : Act → World → Prop, (∀ a' w', (S w → i ∉ Z → S w') → wpAnyY P md ops Q S Z fuel (listed.setIfInBounds i true) a' w' → K' a' w') → if Region.wanted o (yielded ops a.tmps) = true then Oper.wp P o a w K' Q else K' (a.put o.dst undef) w) :
    wpAnyY P md ops Q S Z (fuel + 1) listed a w := by
  refine ⟨fun h0 => (by rw [hr] at h0; cases h0), fun j hj => ?_⟩
  rw [hr] at hj
  have e := List.mem_singleton.1 hj
  subst e
  exact wpOp_step ho (fun K' hK => h K' (fun a w hS hW => hK a w ⟨hS, hW⟩))
theorem wpAnyY_done {Z : List Nat} {listed : Array Bool} {a : Act} {w : World} (hr : Region.ready md ops listed = []) (h : Q .normal a w) : ∀ fuel, wpAnyY P md ops Q S Z fuel listed a w
  | 0 => ⟨hr, h⟩
  | _ + 1 => ⟨fun _ => h, by rw [hr]; simp⟩
theorem wp_regionY {id : Nat} {a : Act} {w : World} (S : World → Prop) (Z : List Nat) (hm : P.follows .mixedOrders = true)
    (h : wpAnyY P .any ops Q S Z ops.size (Array.replicate ops.size false) a w.drew) : (Code.region id ops true).wp P Q a w :=
  wp_region_any hm (wpAny_of_Y Z _ _ _ _ h)
end

section
variable {P : Program} {ops : Array Oper} {Q : Exit → Act → World → Prop} {md : Region.Mode} {S : World → Prop}
/-- what yields in whatever world may be taken first, whatever of Z comes up ahead of it -/
theorem wpAnyY_firstF {Z : List Nat} {i : Nat} {oi : Oper} {v : Value} (hi : ops[i]? = some oi) (hsel : ∀ (j : Nat) (o : Oper) cs b, ops[j]? = some o → o.op ≠ .select cs b)
    (hQ : ∀ c a w, Q (.panic c) (a.put oi.dst v) w → Q (.panic c) a w) :
    ∀ (fuel : Nat) (listed : Array Bool) (a : Act) (w : World),
      (∀ j oj, ops[j]? = some oj → j ≠ i → listed.getD j true = false → (∀ e ∈ oj.after, Region.binds md e = true → e.on ≠ i) → oi.apart ops oj = true) →
      i ∈ Region.ready md ops listed → YieldsIf P ops (fun _ => True) oi v a →
      wpAnyY P md ops Q S Z fuel (listed.setIfInBounds i true) (a.put oi.dst v) w → wpAnyY P md ops Q S Z (fuel + 1) listed a w := by
  intro fuel
  induction fuel with
  | zero =>
    intro listed a w _ hr hy H
    refine ⟨fun h => (by rw [h] at hr; cases hr), fun j hj => ?_⟩
    by_cases hji : j = i
    · subst hji; exact hy.wpOp hi trivial ⟨fun h _ => h, H⟩
    · have := ready_mono hj hji
      rw [H.1] at this
      cases this
  | succ fuel ih =>
    intro listed a w hfree hr hy H
    refine ⟨fun h => (by rw [h] at hr; cases hr), fun j hj => ?_⟩
    by_cases hji : j = i
    · subst hji; exact hy.wpOp hi trivial ⟨fun h _ => h, H⟩
    · have h1 := H.2 j (ready_mono hj hji)
      obtain ⟨hjun, oj, hoj, hall⟩ := mem_ready.1 hj
      have hnot : ∀ e ∈ oj.after, Region.binds md e = true → e.on ≠ i := fun e he hb heq => by
        have h1 := hall e he hb
        have h0 := (mem_ready.1 hr).1
        rw [heq] at h1
        rcases Nat.lt_or_ge i listed.size with h' | h'
        · simp [h'] at h0 h1; rw [h0] at h1; cases h1
        · simp [Array.getElem?_eq_none h'] at h1
      have h2 := wpOp_putIf hoj (hfree j oj hoj hji hjun hnot) (fun cs b => hsel i oi cs b hi) (fun cs b => hsel j oj cs b hoj) hQ hy h1
      have hfree' : ∀ k ok, ops[k]? = some ok → k ≠ i → (listed.setIfInBounds j true).getD k true = false →
          (∀ e ∈ ok.after, Region.binds md e = true → e.on ≠ i) → oi.apart ops ok = true := fun k ok hk hki hun hno => by
        refine hfree k ok hk hki ?_ hno
        by_cases hjk : j = k
        · subst hjk; exact hjun
        · rw [getD_set_ne true hjk] at hun; exact hun
      refine wpOp_mono (fun a' w' h3 => ⟨h3.2.1, ih (listed.setIfInBounds j true) a' w' hfree' (ready_mono hr (Ne.symm hji)) h3.1 ?_⟩) h2
      rw [Array.setIfInBounds_comm _ _ hji]
      exact h3.2.2
theorem wpAnyY_takeF {Z : List Nat} (i : Nat) {oi : Oper} (v : Value) {fuel : Nat} {listed : Array Bool} {a : Act} {w : World} (hi : ops[i]? = some oi)
    (hs : (Region.noSelect ops && Region.free md ops listed i && (Region.ready md ops listed).contains i) = true)
    (hQ : ∀ c a w, Q (.panic c) (a.put oi.dst v) w → Q (.panic c) a w) (hw : Region.wanted oi (yielded ops a.tmps) = true) (hy : ∀ w, (execOp a.eval oi).run P w = .ok (.value v) w)
    (h : wpAnyY P md ops Q S Z fuel (listed.setIfInBounds i true) (a.put oi.dst v) w) : wpAnyY P md ops Q S Z (fuel + 1) listed a w := by
  simp only [Bool.and_eq_true, List.contains_iff_mem] at hs
  exact wpAnyY_firstF hi (Region.noSelect_spec hs.1.1) hQ fuel listed a w (Region.free_spec hi hs.1.2) hs.2 (.inl ⟨hw, fun w _ => hy w⟩) h
end
theorem wp_regionM {P : Program} {ops : Array Oper} {Q : Exit → Act → World → Prop} {id : Nat} {a : Act} {w : World} (S : World → Prop) (Z : List Nat) (L0 : Array Bool) (hL : Array.replicate ops.size false = L0) (hm : P.follows .mixedOrders = true)
    (h : wpAnyY P .any ops Q S Z ops.size L0 a w.drew) : (Code.region id ops true).wp P Q a w := by
  subst hL
  exact wp_regionY S Z hm h
theorem wpAnyY_oneB {P : Program} {ops : Array Oper} {Q : Exit → Act → World → Prop} {md : Region.Mode} {S : World → Prop} {Z : List Nat} (i : Nat) {o : Oper} {fuel : Nat} {listed : Array Bool} {a : Act} {w : World} (ho : ops[i]? = some o) (hr : (Region.ready md ops listed == [i]) = true)
    (h : ∀ K' : Act → World → Prop, (∀ a' w', (S w → i ∉ Z → S w') → wpAnyY P md ops Q S Z fuel (listed.setIfInBounds i true) a' w' → K' a' w') → if Region.wanted o (yielded ops a.tmps) = true then Oper.wp P o a w K' Q else K' (a.put o.dst undef) w) :
    wpAnyY P md ops Q S Z (fuel + 1) listed a w := wpAnyY_one i ho (eq_of_beq hr) h
theorem wpAnyY_doneB {P : Program} {ops : Array Oper} {Q : Exit → Act → World → Prop} {md : Region.Mode} {S : World → Prop} {Z : List Nat} {listed : Array Bool} {a : Act} {w : World} (hr : (Region.ready md ops listed == []) = true) (h : Q .normal a w) (fuel : Nat) : wpAnyY P md ops Q S Z fuel listed a w := wpAnyY_done (eq_of_beq hr) h fuel
/-- two may come up -/
theorem wpAnyY_twoB {P : Program} {ops : Array Oper} {Q : Exit → Act → World → Prop} {md : Region.Mode} {S : World → Prop} {Z : List Nat} (i j : Nat) {o o' : Oper} {fuel : Nat} {listed : Array Bool} {a : Act} {w : World} (ho : ops[i]? = some o) (ho' : ops[j]? = some o') (hr : (Region.ready md ops listed == [i, j]) = true)
    (h : ∀ K' : Act → World → Prop, (∀ a' w', (S w → i ∉ Z → S w') → wpAnyY P md ops Q S Z fuel (listed.setIfInBounds i true) a' w' → K' a' w') → if Region.wanted o (yielded ops a.tmps) = true then Oper.wp P o a w K' Q else K' (a.put o.dst undef) w)
    (h' : ∀ K' : Act → World → Prop, (∀ a' w', (S w → j ∉ Z → S w') → wpAnyY P md ops Q S Z fuel (listed.setIfInBounds j true) a' w' → K' a' w') → if Region.wanted o' (yielded ops a.tmps) = true then Oper.wp P o' a w K' Q else K' (a.put o'.dst undef) w) :
    wpAnyY P md ops Q S Z (fuel + 1) listed a w := by
  have hr := eq_of_beq hr
  refine ⟨fun h0 => (by rw [hr] at h0; cases h0), fun k hk => ?_⟩
  rw [hr] at hk
  rcases List.mem_cons.1 hk with e | hk
  · subst e
    exact wpOp_step ho (fun K' hK => h K' (fun a w hS hW => hK a w ⟨hS, hW⟩))
  · have e := List.mem_singleton.1 hk
    subst e
    exact wpOp_step ho' (fun K' hK => h' K' (fun a w hS hW => hK a w ⟨hS, hW⟩))
end

section
open Go.RowKit Go.Shelf
attribute [local go_sem] Oper.semAt_some

/-- a single step out of a row of steps -/
theorem step_of_listT {ops : Array Oper} {o : Oper} {a : Act} {w : World} {K : Act → World → Prop} {Q : Exit → Act → World → Prop} {E : Prop} (hg : o.guard = none) (h : wpList Try.prog ops (Exit.then K (fun _ _ _ => False)) [o] a w) :
    if Region.wanted o (yielded ops a.tmps) = true then Oper.wp Try.prog o a w K Q else E := by
  have hw : Region.wanted o (yielded ops a.tmps) = true := by simp [Region.wanted, hg]
  rw [if_pos hw]
  unfold wpList at h
  rw [if_pos hw] at h
  rcases h with h | ⟨_, a', w', h⟩
  · unfold Oper.wp at *
    generalize (execOp a.eval o).run Try.prog w = r at *
    cases r with
    | ok n w' =>
      cases n <;> simp only [Oper.upon] at h ⊢ <;>
        first
          | exact h
          | exact Calls.mono h (fun e w'' he => by
              cases e with
              | returned v => exact he
              | panicked c => exact he.elim
              | outgrown => obtain ⟨a', w', he⟩ := he; exact he.elim)
          | exact Rows.mono h (fun _ _ he => he)
    | halt x w' =>
      cases x <;> simp only [Oper.upon] at h ⊢ <;> first | exact h | exact h.elim
  · exact h.elim
/-- append one thing of one cell that lies somewhere -/
theorem wpList_psR (w : World) {t e : TypeId} {z : Value} {by' : Nat} (und : Try.prog.underlying t = some (.slice e)) (inf : (Try.prog.info? e).map (fun i => (i.zero, i.size, i.bytes)) = some (some z, 1, by')) (one : z.cells.size = 1) (hby : by' ≤ 24) (u : Value) (h1 : u.oneCell' = true)
    {ops : Array Oper} {rest : List Oper} {o : Oper} {a : Act} {Q : Exit → Act → World → Prop} (hg : o.guard = none) (s x : Operand) (hop : o.op = Op.call { callee := .builtin .append, args := #[s, x], argTypes := #[t, t] }) (ao : Option Addr) (m co lo : Nat) (D : List Value) (hs : a.eval s = .slice ao m co)
    (hA : AnsX e w lo ao m co D) (hlo : lo ≤ w.heap.size) (q : Nat) (hx : a.eval x = .slice (some ⟨q, 0, none⟩) 1 1) (hq : w.cell? ⟨q, 0, none⟩ = some u) (hb : m + 1 ≤ 5000000000000)
    (hK : ∀ gx cx w', AnsX e w' lo (some ⟨gx, 0, none⟩) (m + 1) cx (D ++ [u]) → w.grownBy w' (Value.slice ao m co).ownBlock → ((Value.slice ao m co).ownBlock = some gx ∨ w.heap.size ≤ gx) → wpList Try.prog ops Q rest (a.put o.dst (.slice (some ⟨gx, 0, none⟩) (m + 1) cx)) w') :
    wpList Try.prog ops Q (o :: rest) a w := by
  obtain ⟨i0, hi, hz0, hz1, hz2⟩ := info_parts inf
  have hle : (m + 1) * by' ≤ (m + 1) * 24 := Nat.mul_le_mul_left _ hby
  refine wpList_apG w hg s x t e i0 z 1 by' und hi hz0 hz1 hz2 one (by decide) hop (.slice ao m co) m D hs hA.own ⟨q, 0, none⟩ 1 1 [u] hx rfl ?_ (fun v hv => by rw [List.mem_singleton.1 hv]; exact h1) (by decide) (by unfold maxLen; omega) (by omega) ?_
  · intro j v hv
    cases j with
    | zero => rw [addr_add]; have e : u = v := Option.some.inj hv; rw [← e]; exact hq
    | succ j => cases hv
  · intro g c w' hgx hgr hown
    refine hK g c w' ⟨hown, fun v hv => ?_, fun y hy => ?_⟩ hgr hgx
    · rcases List.mem_append.1 hv with h | h
      · exact hA.one v h
      · rw [List.mem_singleton.1 h]; exact h1
    · have e' : g = y := Option.some.inj hy
      subst e'
      rcases hgx with h | h
      · exact hA.new g h
      · omega
theorem Try.inf_fs : (Try.prog.info? 33).map (fun i => (i.zero, i.size, i.bytes)) = some (some (.slice none 0 0), 1, 24) := by kernel_rfl
theorem Try.inf_bo : (Try.prog.info? 4).map (fun i => (i.zero, i.size, i.bytes)) = some (some (.bool false), 1, 1) := by kernel_rfl
end

section
open Go.RowKit Go.Shelf

theorem within_any (n m : Int) (w : World) : Calls Try.prog 24 #[.int .i64 n, .int .i64 m] w fun e w' => e = .returned (.bool (decide (0 ≤ n) && decide (n ≤ m))) ∧ w' = w := by
  by_cases h : 0 ≤ n
  · have h' : decide (0 ≤ n) = true := decide_eq_true h
    rw [h']
    go_enter Try.func24, Try.ntmps24
    go_wp2
    go_ret
    exact ⟨by simp, rfl⟩
  · have h' : decide (0 ≤ n) = false := decide_eq_false h
    rw [h']
    go_enter Try.func24, Try.ntmps24
    go_wp2
    go_ret
    exact ⟨by simp [h], rfl⟩
theorem locked_any (g : Nat) (r : Rx) (s : Mx) (dv : Value) (w : World) (h : SyM w g r s dv) : Calls Try.prog 18 #[.pointer (some ⟨g, 0, none⟩)] w fun e w' => e = .returned (.bool (s.mode != 0)) ∧ w' = w := by
  have c5 := h.blk.c 5 (.bool (s.mode != 0)) rfl
  go_enter Try.func18, Try.ntmps18
  go_wp2
  go_ret
  exact ⟨rfl, rfl⟩
/-- one who is made, and does nothing yet -/
def syQ (L F H M : Nat) (lk : Bool) (p : Nat) (tu : Bool) (mi : Nat) : Array Value :=
  #[.int .i64 L, .int .i64 F, .int .i64 H, .int .i64 M, .nilFunc, .bool lk, .int .i64 0, .int .u64 0, .int .i64 p, .bool tu, .int .i64 mi, .slice none 0 0]
theorem syQS (L F H M : Nat) (lk : Bool) (p : Nat) (tu : Bool) (mi : Nat) : (syQ L F H M lk p tu mi).size = 12 := rfl
theorem syQ8 (L F H M : Nat) (lk : Bool) (p : Nat) (tu : Bool) (mi : Nat) (n : Nat) : (syQ L F H M lk p tu mi).setIfInBounds 8 (.int .i64 n) = syQ L F H M lk n tu mi := rfl
theorem syQ5 (L F H M : Nat) (lk : Bool) (p : Nat) (tu : Bool) (mi : Nat) (b : Bool) : (syQ L F H M lk p tu mi).setIfInBounds 5 (.bool b) = syQ L F H M b p tu mi := rfl
theorem syQ9 (L F H M : Nat) (lk : Bool) (p : Nat) (tu : Bool) (mi : Nat) (b : Bool) : (syQ L F H M lk p tu mi).setIfInBounds 9 (.bool b) = syQ L F H M lk p b mi := rfl
theorem syQ10 (L F H M : Nat) (lk : Bool) (p : Nat) (tu : Bool) (mi : Nat) (n : Nat) : (syQ L F H M lk p tu mi).setIfInBounds 10 (.int .i64 n) = syQ L F H M lk p tu n := rfl
theorem syQ4 (L F H M : Nat) (lk : Bool) (p : Nat) (tu : Bool) (mi : Nat) (k : Nat) : (syQ L F H M lk p tu mi).setIfInBounds 4 (.func (.func k) #[] #[]) = syA L F H M k lk 0 0 p tu mi (.slice none 0 0) := rfl
set_option maxHeartbeats 1000000 in
theorem search_new (g L F H M : Nat) (w : World) (h : w.heap[g]? = some (.cells (syQ L F H M false 0 false 0) 65)) :
    Calls Try.prog 25 #[.pointer (some ⟨g, 0, none⟩), .int .i64 0] w fun e w' => e = .returned (.tuple #[]) ∧ SyB w' g L F H M 32 false 0 0 0 false 0 (.slice none 0 0) ∧ w.grownBy w' (some g) := by
  have t1 : True := trivial
  go_enter Try.func25, Try.ntmps25
  go_wp2_with (first
    | (have _t := t1; clear t1; refine wpList_stS _ rfl _ (.tmp 8) (.tmp 6) rfl g 8 _ _ _ rfl rfl h (st_int g 8 _) (by rw [syQS]; decide) (syQ8 (n := 0) ..) ?_; intro w1 h1 g1; clear h; have t2 : True := trivial)
    | (have _t := t2; clear t2; refine wpList_stS _ rfl _ (.tmp 10) (.const (.bool false)) rfl g 5 _ _ _ rfl rfl h1 (st_bool g 5 _) (by rw [syQS]; decide) (syQ5 ..) ?_; intro w2 h2 g2; clear h1; have t3 : True := trivial)
    | (have _t := t3; clear t3; refine wpList_stS _ rfl _ (.tmp 14) (.const (.bool false)) rfl g 9 _ _ _ rfl rfl h2 (st_bool g 9 _) (by rw [syQS]; decide) (syQ9 ..) ?_; intro w3 h3 g3; clear h2; have t4 : True := trivial)
    | (have _t := t4; clear t4; refine wpList_stS _ rfl _ (.tmp 16) (.const (.int .i64 0)) rfl g 10 _ _ _ rfl rfl h3 (st_int g 10 _) (by rw [syQS]; decide) (syQ10 (n := 0) ..) ?_; intro w4 h4 g4; clear h3; have t5 : True := trivial)
    | (have _t := t5; clear t5; refine wpList_stS _ rfl _ (.tmp 19) (.func 32) rfl g 4 _ _ _ rfl rfl h4 (st_fn g 4 _) (by rw [syQS]; decide) (syQ4 ..) ?_; intro w5 h5 g5; clear h4))
  go_end0
  exact ⟨rfl, h5, grown_trans g1 (grown_trans g2 (grown_trans g3 (grown_trans g4 g5)))⟩
def s0X : Mx := ⟨0, 0, 0, 0, false, 0, []⟩
def ruV (L F H M : Nat) : Value := .agg #[.int .i64 L, .int .i64 F, .int .i64 H, .int .i64 M]
set_option maxHeartbeats 2000000 in
theorem new_any (r : Rx) (w : World) (hL1 : 1 ≤ r.L) (hL : r.L ≤ 2048) (hF : r.F ≤ 8) (hH : r.H ≤ 12) (hM : r.M ≤ 8) :
    Calls Try.prog 15 #[ruV r.L r.F r.H r.M] w fun e w' => ∃ g, e = .returned (.tuple #[.pointer (some ⟨g, 0, none⟩), .nilIface]) ∧ w.heap.size ≤ g ∧ SyM w' g r s0X (.slice none 0 0) ∧ w.grownBy w' none := by
  obtain ⟨L, F, H, M⟩ := r
  simp only at hL1 hL hF hH hM
  unfold ruV
  have k1 : decide (0 ≤ (F : Int)) = true := decide_eq_true (by omega)
  have k2 : decide ((F : Int) ≤ 8) = true := decide_eq_true (by omega)
  have k3 : decide (0 ≤ (H : Int)) = true := decide_eq_true (by omega)
  have k4 : decide ((H : Int) ≤ 12) = true := decide_eq_true (by omega)
  have k5 : decide (0 ≤ (M : Int)) = true := decide_eq_true (by omega)
  have k6 : decide ((M : Int) ≤ 8) = true := decide_eq_true (by omega)
  have WF := fun w => within_any (F : Int) 8 w
  have WH := fun w => within_any (H : Int) 12 w
  have WM := fun w => within_any (M : Int) 8 w
  rw [k1, k2, Bool.and_self] at WF
  rw [k3, k4, Bool.and_self] at WH
  rw [k5, k6, Bool.and_self] at WM
  have t1 : True := trivial
  clear k1 k2 k3 k4 k5 k6
  have gA := World.grownBy_alloc w (.cells #[.int .i64 L, .int .i64 F, .int .i64 H, .int .i64 M] 23) none
  have gB := World.grownBy_alloc (w.alloc (.cells #[.int .i64 L, .int .i64 F, .int .i64 H, .int .i64 M] 23)) (.cells (syQ L F H M false 0 false 0) 65) none
  have hQ := heap_alloc_new (w.alloc (.cells #[.int .i64 L, .int .i64 F, .int .i64 H, .int .i64 M] 23)) (.cells (syQ L F H M false 0 false 0) 65)
  rw [World.size_alloc] at hQ
  go_enter Try.func15, Try.ntmps15
  go_wp2_with (first
    | (go_at_call 24; have _t := t1; clear t1; refine (WF _).mono ?_; rintro e w1 ⟨rfl, hw⟩; have hw := hw.symm; subst hw; have t2 : True := trivial)
    | (go_at_call 24; have _t := t2; clear t2; refine (WH _).mono ?_; rintro e w1 ⟨rfl, hw⟩; have hw := hw.symm; subst hw; have t3 : True := trivial)
    | (go_at_call 24; have _t := t3; clear t3; refine (WM _).mono ?_; rintro e w1 ⟨rfl, hw⟩; have hw := hw.symm; subst hw; have t4 : True := trivial)
    | (go_at_call 25; have _t := t4; clear t4; refine (search_new (w.heap.size + 1) L F H M _ hQ).mono ?_; rintro e w2 ⟨rfl, hB2, g2⟩))
  go_ret2
  exact ⟨w.heap.size + 1, rfl, by omega, ⟨hB2, fun _ => ⟨rfl, rfl⟩, fun h => absurd h (show ¬ (0 : Nat) = 1 by decide)⟩, grown_far (grown_trans gA gB) g2 (fun x e => by cases e; omega)⟩
end
end Go.Proofs.Ythdjpbfknbafgaa
