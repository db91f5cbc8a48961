import Derived.Deep.RegionHeld3
import Derived.Test.YtdcfgaibppenaaaDoorSd9
import Derived.Test.YtdcfgaibppenaaaDoorProg
import Derived.WalkKit
namespace Go.Proofs.YtdcfgaibppenaaaDoor
open Go.RowKit
set_option maxRecDepth 100000
set_option linter.unusedVariables false
set_option linter.unusedSimpArgs false

section
section
variable {P : Program} {ops : Array Oper} {Q : Exit → Act → World → Prop} {md : Region.Mode} {S : World → Prop}
/-- whatever order is picked from here on, and S holds behind every operation but those of Z, the last ones -/
def wpAnyY (P : Program) (md : Region.Mode) (ops : Array Oper) (Q : Exit → Act → World → Prop) (S : World → Prop) (Z : List Nat) : Nat → Array Bool → Act → World → Prop
  | 0, listed, a, w => Region.ready md ops listed = [] ∧ Q .normal a w
  | fuel + 1, listed, a, w =>
    (Region.ready md ops listed = [] → Q .normal a w) ∧
    ∀ i ∈ Region.ready md ops listed, wpOp P ops Q i (fun a' w' => (S w → i ∉ Z → S w') ∧ wpAnyY P md ops Q S Z fuel (listed.setIfInBounds i true) a' w') a w
theorem wpAny_of_Y (Z : List Nat) : ∀ (fuel : Nat) (listed : Array Bool) (a : Act) (w : World), wpAnyY P md ops Q S Z fuel listed a w → wpAny P md ops Q fuel listed a w
  | 0, _, _, _, h => h
  | fuel + 1, _, _, _, h => ⟨h.1, fun i hi => wpOp_mono (fun a' w' h' => wpAny_of_Y Z fuel _ a' w' h'.2) (h.2 i hi)⟩
theorem wpAnyY_first {Z C : List Nat} (hz : ∀ z, z ∈ Z → z ∈ C) {i : Nat} {oi : Oper} {v : Value} (hi : ops[i]? = some oi) (hsel : ∀ (j : Nat) (o : Oper) cs b, ops[j]? = some o → o.op ≠ .select cs b)
    (hQ : ∀ c a w, Q (.panic c) (a.put oi.dst v) w → Q (.panic c) a w) :
    ∀ (fuel : Nat) (listed : Array Bool) (a : Act) (w : World),
      (∀ j oj, ops[j]? = some oj → j ≠ i → listed.getD j true = false → (∀ e ∈ oj.after, Region.binds md e = true → e.on ≠ i) → oi.apart ops oj = true) →
      i ∈ Region.ready md ops listed → waitZ md ops listed i C = true → YieldsIf P ops S oi v a → S w →
      wpAnyY P md ops Q S Z fuel (listed.setIfInBounds i true) (a.put oi.dst v) w → wpAnyY P md ops Q S Z (fuel + 1) listed a w := by
  intro fuel
  induction fuel with
  | zero =>
    intro listed a w _ hr hW hy hS H
    refine ⟨fun h => (by rw [h] at hr; cases hr), fun j hj => ?_⟩
    by_cases hji : j = i
    · subst hji; exact hy.wpOp hi hS ⟨fun h _ => h, H⟩
    · have := ready_mono hj hji
      rw [H.1] at this
      cases this
  | succ fuel ih =>
    intro listed a w hfree hr hW hy hS H
    refine ⟨fun h => (by rw [h] at hr; cases hr), fun j hj => ?_⟩
    by_cases hji : j = i
    · subst hji; exact hy.wpOp hi hS ⟨fun h _ => h, H⟩
    · have hjC := waitZ_no hW hr hj
      have hjz : j ∉ Z := fun e => hjC (hz j e)
      have h1 := H.2 j (ready_mono hj hji)
      obtain ⟨hjun, oj, hoj, hall⟩ := mem_ready.1 hj
      have hnot : ∀ e ∈ oj.after, Region.binds md e = true → e.on ≠ i := fun e he hb heq => by
        have h1 := hall e he hb
        have h0 := (mem_ready.1 hr).1
        rw [heq] at h1
        rcases Nat.lt_or_ge i listed.size with h' | h'
        · simp [h'] at h0 h1; rw [h0] at h1; cases h1
        · simp [Array.getElem?_eq_none h'] at h1
      have h2 := wpOp_putIf hoj (hfree j oj hoj hji hjun hnot) (fun cs b => hsel i oi cs b hi) (fun cs b => hsel j oj cs b hoj) hQ hy h1
      have hfree' : ∀ k ok, ops[k]? = some ok → k ≠ i → (listed.setIfInBounds j true).getD k true = false →
          (∀ e ∈ ok.after, Region.binds md e = true → e.on ≠ i) → oi.apart ops ok = true := fun k ok hk hki hun hno => by
        refine hfree k ok hk hki ?_ hno
        by_cases hjk : j = k
        · subst hjk; exact hjun
        · rw [getD_set_ne true hjk] at hun; exact hun
      refine wpOp_mono (fun a' w' h3 => ⟨h3.2.1, ih (listed.setIfInBounds j true) a' w' hfree' (ready_mono hr (Ne.symm hji)) (waitZ_step hW hjC) h3.1 (h3.2.1 hS hjz) ?_⟩) h2
      rw [Array.setIfInBounds_comm _ _ hji]
      exact h3.2.2
/-- take number i first -/
theorem wpAnyY_take {Z : List Nat} (C : List Nat) (i : Nat) {oi : Oper} (v : Value) {fuel : Nat} {listed : Array Bool} {a : Act} {w : World} (hi : ops[i]? = some oi)
    (hs : ((Z.all fun z => C.contains z) && Region.noSelect ops && Region.free md ops listed i && (Region.ready md ops listed).contains i && waitZ md ops listed i C) = true)
    (hQ : ∀ c a w, Q (.panic c) (a.put oi.dst v) w → Q (.panic c) a w) (hS : S w) (hw : Region.wanted oi (yielded ops a.tmps) = true) (hy : ∀ w, S w → (execOp a.eval oi).run P w = .ok (.value v) w)
    (h : wpAnyY P md ops Q S Z fuel (listed.setIfInBounds i true) (a.put oi.dst v) w) : wpAnyY P md ops Q S Z (fuel + 1) listed a w := by
  simp only [Bool.and_eq_true, List.contains_iff_mem, List.all_eq_true] at hs
  exact wpAnyY_first hs.1.1.1.1 hi (Region.noSelect_spec hs.1.1.1.2) hQ fuel listed a w (Region.free_spec hi hs.1.1.2) hs.1.2 hs.2 (.inl ⟨hw, hy⟩) hS h
/-- one alone may come up -/
theorem wpAnyY_one {Z : List Nat} (i : Nat) {o : Oper} {fuel : Nat} {listed : Array Bool} {a : Act} {w : World} (ho : ops[i]? = some o) (hr : Region.ready md ops listed = [i])
    (h : ∀ K' : Act → World → Prop, (∀ a' w', (S w → i ∉ Z → S w') → wpAnyY P md ops Q S Z fuel (listed.setIfInBounds i true) a' w' → K' a' w') → if Region.wanted o (yielded ops a.tmps) = true then Oper.wp P o a w K' Q else K' (a.put o.dst undef) w) :
    wpAnyY P md ops Q S Z (fuel + 1) listed a w := by
  refine ⟨fun h0 => (by rw [hr] at h0; cases h0), fun j hj => ?_⟩
  rw [hr] at hj
  have e := List.mem_singleton.1 hj
  subst e
  exact wpOp_step ho (fun K' hK => h K' (fun a w hS hW => hK a w ⟨hS, hW⟩))
theorem wpAnyY_done {Z : List Nat} {listed : Array Bool} {a : Act} {w : World} (hr : Region.ready md ops listed = []) (h : Q .normal a w) : ∀ fuel, wpAnyY P md ops Q S Z fuel listed a w
  | 0 => ⟨hr, h⟩
  | _ + 1 => ⟨fun _ => h, by rw [hr]; simp⟩
theorem wp_regionY {id : Nat} {a : Act} {w : World} (S : World → Prop) (Z : List Nat) (hm : P.follows .mixedOrders = true)
    (h : wpAnyY P .any ops Q S Z ops.size (Array.replicate ops.size false) a w.drew) : (Code.region id ops true).wp P Q a w :=
  wp_region_any hm (wpAny_of_Y Z _ _ _ _ h)
end

section
variable {P : Program} {ops : Array Oper} {Q : Exit → Act → World → Prop} {md : Region.Mode} {S : World → Prop}
/-- what yields in whatever world may be taken first, whatever of Z comes up ahead of it -/
theorem wpAnyY_firstF {Z : List Nat} {i : Nat} {oi : Oper} {v : Value} (hi : ops[i]? = some oi) (hsel : ∀ (j : Nat) (o : Oper) cs b, ops[j]? = some o → o.op ≠ .select cs b)
    (hQ : ∀ c a w, Q (.panic c) (a.put oi.dst v) w → Q (.panic c) a w) :
    ∀ (fuel : Nat) (listed : Array Bool) (a : Act) (w : World),
      (∀ j oj, ops[j]? = some oj → j ≠ i → listed.getD j true = false → (∀ e ∈ oj.after, Region.binds md e = true → e.on ≠ i) → oi.apart ops oj = true) →
      i ∈ Region.ready md ops listed → YieldsIf P ops (fun _ => True) oi v a →
      wpAnyY P md ops Q S Z fuel (listed.setIfInBounds i true) (a.put oi.dst v) w → wpAnyY P md ops Q S Z (fuel + 1) listed a w := by
  intro fuel
  induction fuel with
  | zero =>
    intro listed a w _ hr hy H
    refine ⟨fun h => (by rw [h] at hr; cases hr), fun j hj => ?_⟩
    by_cases hji : j = i
    · subst hji; exact hy.wpOp hi trivial ⟨fun h _ => h, H⟩
    · have := ready_mono hj hji
      rw [H.1] at this
      cases this
  | succ fuel ih =>
    intro listed a w hfree hr hy H
    refine ⟨fun h => (by rw [h] at hr; cases hr), fun j hj => ?_⟩
    by_cases hji : j = i
    · subst hji; exact hy.wpOp hi trivial ⟨fun h _ => h, H⟩
    · have h1 := H.2 j (ready_mono hj hji)
      obtain ⟨hjun, oj, hoj, hall⟩ := mem_ready.1 hj
      have hnot : ∀ e ∈ oj.after, Region.binds md e = true → e.on ≠ i := fun e he hb heq => by
        have h1 := hall e he hb
        have h0 := (mem_ready.1 hr).1
        rw [heq] at h1
        rcases Nat.lt_or_ge i listed.size with h' | h'
        · simp [h'] at h0 h1; rw [h0] at h1; cases h1
        · simp [Array.getElem?_eq_none h'] at h1
      have h2 := wpOp_putIf hoj (hfree j oj hoj hji hjun hnot) (fun cs b => hsel i oi cs b hi) (fun cs b => hsel j oj cs b hoj) hQ hy h1
      have hfree' : ∀ k ok, ops[k]? = some ok → k ≠ i → (listed.setIfInBounds j true).getD k true = false →
          (∀ e ∈ ok.after, Region.binds md e = true → e.on ≠ i) → oi.apart ops ok = true := fun k ok hk hki hun hno => by
        refine hfree k ok hk hki ?_ hno
        by_cases hjk : j = k
        · subst hjk; exact hjun
        · rw [getD_set_ne true hjk] at hun; exact hun
      refine wpOp_mono (fun a' w' h3 => ⟨h3.2.1, ih (listed.setIfInBounds j true) a' w' hfree' (ready_mono hr (Ne.symm hji)) h3.1 ?_⟩) h2
      rw [Array.setIfInBounds_comm _ _ hji]
      exact h3.2.2
theorem wpAnyY_takeF {Z : List Nat} (i : Nat) {oi : Oper} (v : Value) {fuel : Nat} {listed : Array Bool} {a : Act} {w : World} (hi : ops[i]? = some oi)
    (hs : (Region.noSelect ops && Region.free md ops listed i && (Region.ready md ops listed).contains i) = true)
    (hQ : ∀ c a w, Q (.panic c) (a.put oi.dst v) w → Q (.panic c) a w) (hw : Region.wanted oi (yielded ops a.tmps) = true) (hy : ∀ w, (execOp a.eval oi).run P w = .ok (.value v) w)
    (h : wpAnyY P md ops Q S Z fuel (listed.setIfInBounds i true) (a.put oi.dst v) w) : wpAnyY P md ops Q S Z (fuel + 1) listed a w := by
  simp only [Bool.and_eq_true, List.contains_iff_mem] at hs
  exact wpAnyY_firstF hi (Region.noSelect_spec hs.1.1) hQ fuel listed a w (Region.free_spec hi hs.1.2) hs.2 (.inl ⟨hw, fun w _ => hy w⟩) h
end
theorem wp_regionM {P : Program} {ops : Array Oper} {Q : Exit → Act → World → Prop} {id : Nat} {a : Act} {w : World} (S : World → Prop) (Z : List Nat) (L0 : Array Bool) (hL : Array.replicate ops.size false = L0) (hm : P.follows .mixedOrders = true)
    (h : wpAnyY P .any ops Q S Z ops.size L0 a w.drew) : (Code.region id ops true).wp P Q a w := by
  subst hL
  exact wp_regionY S Z hm h
theorem wpAnyY_oneB {P : Program} {ops : Array Oper} {Q : Exit → Act → World → Prop} {md : Region.Mode} {S : World → Prop} {Z : List Nat} (i : Nat) {o : Oper} {fuel : Nat} {listed : Array Bool} {a : Act} {w : World} (ho : ops[i]? = some o) (hr : (Region.ready md ops listed == [i]) = true)
    (h : ∀ K' : Act → World → Prop, (∀ a' w', (S w → i ∉ Z → S w') → wpAnyY P md ops Q S Z fuel (listed.setIfInBounds i true) a' w' → K' a' w') → if Region.wanted o (yielded ops a.tmps) = true then Oper.wp P o a w K' Q else K' (a.put o.dst undef) w) :
    wpAnyY P md ops Q S Z (fuel + 1) listed a w := wpAnyY_one i ho (eq_of_beq hr) h
theorem wpAnyY_doneB {P : Program} {ops : Array Oper} {Q : Exit → Act → World → Prop} {md : Region.Mode} {S : World → Prop} {Z : List Nat} {listed : Array Bool} {a : Act} {w : World} (hr : (Region.ready md ops listed == []) = true) (h : Q .normal a w) (fuel : Nat) : wpAnyY P md ops Q S Z fuel listed a w := wpAnyY_done (eq_of_beq hr) h fuel
end

section
/-- the number of the first region of a piece of code (0: none; n + 1: region n) -/
def fstR : Code → Nat
  | .region id _ _ => id + 1
  | .seq a _ => fstR a
  | .block _ b => fstR b
  | .loop b => fstR b
  | _ => 0
/-- the piece of code that begins with region n, as long as can be -/
def tailR (n : Nat) : Code → Code
  | .seq a b => if fstR a = n + 1 then .seq a b else match tailR n a with
    | .skip => tailR n b
    | c => c
  | .cond _ t e => match tailR n t with
    | .skip => tailR n e
    | c => c
  | .block _ b => tailR n b
  | .loop b => tailR n b
  | .region id o d => if id = n then .region id o d else .skip
  | _ => .skip
end

section
open GF
theorem cell_grown {w w' : World} {b i : Nat} {r : Option Nat} {v : Value} (h : w.cell? ⟨b, i, none⟩ = some v) (hg : w.grownBy w' r) (hb : b < w.heap.size) (hne : some b ≠ r) : w'.cell? ⟨b, i, none⟩ = some v := by
  rw [← h]
  unfold World.cell?
  rw [hg.block b hb hne]
theorem BxS.apart [Add GF] [Mul GF] [OfNat GF 0] [OfNat GF 1] [L : Nonempty GL] {w : World} {g h : Nat} {t u : TypeId} {A B : Array Value} (x : BxS w g t A) (y : BxS w h u B) (hne : t ≠ u) : g ≠ h := by
  intro e
  subst e
  have : some (Obj.cells A t) = some (.cells B u) := (show w.heap[g]? = _ from x).symm.trans y
  injection this with this
  injection this with _ ht
  exact hne ht
theorem step_of_listR {w : World} {ops : Array Oper} {o : Oper} {a : Act} {K : Act → World → Prop} {Q : Exit → Act → World → Prop} {E : Prop} (hg : o.guard = none) (h : wpList Tryd.prog ops (Exit.then K (fun _ _ _ => False)) [o] a w) :
    if Region.wanted o (yielded ops a.tmps) = true then Oper.wp Tryd.prog o a w K Q else E := by
  have hw : Region.wanted o (yielded ops a.tmps) = true := by simp [Region.wanted, hg]
  rw [if_pos hw]
  unfold wpList at h
  rw [if_pos hw] at h
  rcases h with h | ⟨_, a', w', h⟩
  · unfold Oper.wp at *
    generalize (execOp a.eval o).run Tryd.prog w = r at *
    cases r with
    | ok n w' =>
      cases n <;> simp only [Oper.upon] at h ⊢ <;>
        first
          | exact h
          | exact Calls.mono h (fun e w'' he => by
              cases e with
              | returned v => exact he
              | panicked c => exact he.elim
              | outgrown => obtain ⟨a', w', he⟩ := he; exact he.elim)
          | exact Rows.mono h (fun _ _ he => he)
    | halt x w' =>
      cases x <;> simp only [Oper.upon] at h ⊢ <;> first | exact h | exact h.elim
  · exact h.elim
theorem cell_ltR {w : World} {b o : Nat} {v : Value} (h : w.cell? ⟨b, o, none⟩ = some v) : b < w.heap.size := by
  unfold World.cell? at h
  by_cases hb : b < w.heap.size
  · exact hb
  · rw [Array.getElem?_eq_none (by show w.heap.size ≤ b; omega)] at h
    cases h
theorem cell_grR {w w' : World} {b o : Nat} {v : Value} (h : w.cell? ⟨b, o, none⟩ = some v) (hg : w.grownBy w' none) : w'.cell? ⟨b, o, none⟩ = some v := cell_grown h hg (cell_ltR h) (by simp)
theorem cell_drew {w : World} (a : Addr) {v : Value} (h : w.cell? a = some v) : w.drew.cell? a = some v := h
theorem stc_u8 (g i : Nat) (n : Int) (w : World) (hc : ∃ u, w.cell? ⟨g, i, none⟩ = some u) (hf : w.frozen? ⟨g, i, none⟩ = false) : (Instr.storeAt 5 (.pointer (some ⟨g, i, none⟩)) (.int .u8 n)).run Tryd.prog w = .ok () (w.setCell ⟨g, i, none⟩ (.int .u8 n)) := by
  obtain ⟨u, hc⟩ := hc
  simp [go_sem, hc, hf]
theorem gmul_any [Add GF] [Mul GF] [OfNat GF 0] [OfNat GF 1] [L : Nonempty GL] (x y : GF) (w : World) : Calls Tryd.prog 26 #[.int .u8 (x.v : Int), .int .u8 (y.v : Int)] w fun e w' => e = .returned (.int .u8 ((x * y).v : Int)) ∧ w' = w := by rw [mul_v]; exact rmul_any x.v y.v x.h y.h w
theorem ginv_any [Add GF] [Mul GF] [OfNat GF 0] [OfNat GF 1] [L : Nonempty GL] (y : GF) (hy : y ≠ 0) (w : World) : Calls Tryd.prog 34 #[.int .u8 1, .int .u8 (y.v : Int)] w fun e w' => e = .returned (.tuple #[.int .u8 ((inv y).v : Int), .bool true]) ∧ w' = w := by
  refine (rdiv_any 1 y.v (by decide) y.h w).mono ?_
  rintro e w' ⟨rfl, h⟩
  refine ⟨?_, h⟩
  have e1 : divV 1 y.v = (inv y).v := by
    unfold divV
    rw [if_neg (ne_v hy)]
    exact Fld.one_mul (inv y).h
  have e2 : (y.v == 0) = false := beq_false_of_ne (ne_v hy)
  rw [e1, e2]
  rfl
/-- a system in memory of the call's own -/
structure MT [Add GF] [Mul GF] [OfNat GF 0] [OfNat GF 1] [L : Nonempty GL] (w : World) (lo gm gb n : Nat) (ρ cr : Nat → Nat) (M : Nat → Nat → GF) (b : Nat → GF) : Prop where
  lm : lo ≤ gm
  lb : lo ≤ gb
  lr : ∀ r, r < n → lo ≤ ρ r
  mm : ∃ A, BxS w gm 22 A ∧ ∀ i, i < n → A[i]? = some (.slice (some ⟨ρ i, 0, none⟩) n (cr i))
  rr : ∀ r, r < n → ∃ X, BxS w (ρ r) 5 X ∧ ∀ j, j < n → X[j]? = some (.int .u8 ((M r j).v : Int))
  bb : ∃ B, BxS w gb 5 B ∧ ∀ j, j < n → B[j]? = some (.int .u8 ((b j).v : Int))
  inj : ∀ r s, r < n → s < n → ρ r = ρ s → r = s
  nb : ∀ r, r < n → ρ r ≠ gb
def upd2 [Add GF] [Mul GF] [OfNat GF 0] [OfNat GF 1] [L : Nonempty GL] (M : Nat → Nat → GF) (r j : Nat) (v : GF) : Nat → Nat → GF := fun r' j' => if r' = r ∧ j' = j then v else M r' j'
def upd1 [Add GF] [Mul GF] [OfNat GF 0] [OfNat GF 1] [L : Nonempty GL] (b : Nat → GF) (j : Nat) (v : GF) : Nat → GF := fun j' => if j' = j then v else b j'
section
variable {w w' : World} {lo gm gb n : Nat} {ρ cr : Nat → Nat} {M : Nat → Nat → GF} {b : Nat → GF}
theorem MT.keep [Add GF] [Mul GF] [OfNat GF 0] [OfNat GF 1] [L : Nonempty GL] (h : MT w lo gm gb n ρ cr M b) (hg : w.grownBy w' none) : MT w' lo gm gb n ρ cr M b := by
  refine ⟨h.lm, h.lb, h.lr, ?_, fun r hr => ?_, ?_, h.inj, h.nb⟩
  · obtain ⟨A, k, e⟩ := h.mm
    exact ⟨A, k.keep hg (by simp), e⟩
  · obtain ⟨X, k, e⟩ := h.rr r hr
    exact ⟨X, k.keep hg (by simp), e⟩
  · obtain ⟨B, k, e⟩ := h.bb
    exact ⟨B, k.keep hg (by simp), e⟩
theorem MT.congr [Add GF] [Mul GF] [OfNat GF 0] [OfNat GF 1] [L : Nonempty GL] {M' : Nat → Nat → GF} {b' : Nat → GF} (h : MT w lo gm gb n ρ cr M b) (e1 : ∀ r j, r < n → j < n → M r j = M' r j) (e2 : ∀ j, j < n → b j = b' j) : MT w lo gm gb n ρ cr M' b' := by
  refine ⟨h.lm, h.lb, h.lr, h.mm, fun r hr => ?_, ?_, h.inj, h.nb⟩
  · obtain ⟨X, k, e⟩ := h.rr r hr
    exact ⟨X, k, fun j hj => by rw [← e1 r j hr hj]; exact e j hj⟩
  · obtain ⟨B, k, e⟩ := h.bb
    exact ⟨B, k, fun j hj => by rw [← e2 j hj]; exact e j hj⟩
theorem MT.cm [Add GF] [Mul GF] [OfNat GF 0] [OfNat GF 1] [L : Nonempty GL] (h : MT w lo gm gb n ρ cr M b) {i : Nat} (hi : i < n) : w.cell? ⟨gm, i, none⟩ = some (.slice (some ⟨ρ i, 0, none⟩) n (cr i)) := by
  obtain ⟨A, k, e⟩ := h.mm
  rw [cell_of_row _ _ _ _ _ _ k]
  exact e i hi
theorem MT.cx [Add GF] [Mul GF] [OfNat GF 0] [OfNat GF 1] [L : Nonempty GL] (h : MT w lo gm gb n ρ cr M b) {r j : Nat} (hr : r < n) (hj : j < n) : w.cell? ⟨ρ r, j, none⟩ = some (.int .u8 ((M r j).v : Int)) := by
  obtain ⟨X, k, e⟩ := h.rr r hr
  rw [cell_of_row _ _ _ _ _ _ k]
  exact e j hj
theorem MT.cb [Add GF] [Mul GF] [OfNat GF 0] [OfNat GF 1] [L : Nonempty GL] (h : MT w lo gm gb n ρ cr M b) {j : Nat} (hj : j < n) : w.cell? ⟨gb, j, none⟩ = some (.int .u8 ((b j).v : Int)) := by
  obtain ⟨B, k, e⟩ := h.bb
  rw [cell_of_row _ _ _ _ _ _ k]
  exact e j hj
/-- another box is written -/
theorem bx_ne [Add GF] [Mul GF] [OfNat GF 0] [OfNat GF 1] [L : Nonempty GL] {g g' : Nat} {t : TypeId} {A : Array Value} (k : BxS w g t A) (hg : w.grownBy w' (some g')) (hne : g ≠ g') : BxS w' g t A := k.keep hg (fun e => hne (Option.some.inj e))
theorem MT.setM [Add GF] [Mul GF] [OfNat GF 0] [OfNat GF 1] [L : Nonempty GL] (h : MT w lo gm gb n ρ cr M b) {r j : Nat} (hr : r < n) (hj : j < n) (v : GF) {X : Array Value} (hX : BxS w (ρ r) 5 X) (hX' : BxS w' (ρ r) 5 (X.setIfInBounds j (.int .u8 (v.v : Int)))) (hg : w.grownBy w' (some (ρ r))) : MT w' lo gm gb n ρ cr (upd2 M r j v) b := by
  refine ⟨h.lm, h.lb, h.lr, ?_, fun s hs => ?_, ?_, h.inj, h.nb⟩
  · obtain ⟨A, k, e⟩ := h.mm
    exact ⟨A, bx_ne k hg (fun e => BxS.apart k (e ▸ hX) (by decide) rfl), e⟩
  · obtain ⟨Y, k, e⟩ := h.rr s hs
    by_cases hsr : s = r
    · subst hsr
      have eY : X = Y := by
        unfold BxS at hX k
        rw [hX] at k
        injection k with k
        injection k
      subst eY
      refine ⟨_, hX', fun q hq => ?_⟩
      have hjs : j < X.size := (Array.getElem?_eq_some_iff.1 (e j hj)).1
      by_cases hqj : q = j
      · subst hqj
        rw [Array.getElem?_setIfInBounds_self_of_lt hjs]
        unfold upd2
        rw [if_pos ⟨rfl, rfl⟩]
      · rw [Array.getElem?_setIfInBounds_ne (fun e => hqj e.symm)]
        unfold upd2
        rw [if_neg (fun e => hqj e.2)]
        exact e q hq
    · refine ⟨Y, bx_ne k hg (fun e => hsr (h.inj s r hs hr e)), fun q hq => ?_⟩
      unfold upd2
      rw [if_neg (fun e => hsr e.1)]
      exact e q hq
  · obtain ⟨B, k, e⟩ := h.bb
    exact ⟨B, bx_ne k hg (fun e => h.nb r hr e.symm), e⟩
theorem MT.setB [Add GF] [Mul GF] [OfNat GF 0] [OfNat GF 1] [L : Nonempty GL] (h : MT w lo gm gb n ρ cr M b) {j : Nat} (hj : j < n) (v : GF) {X : Array Value} (hX : BxS w gb 5 X) (hX' : BxS w' gb 5 (X.setIfInBounds j (.int .u8 (v.v : Int)))) (hg : w.grownBy w' (some gb)) : MT w' lo gm gb n ρ cr M (upd1 b j v) := by
  refine ⟨h.lm, h.lb, h.lr, ?_, fun s hs => ?_, ?_, h.inj, h.nb⟩
  · obtain ⟨A, k, e⟩ := h.mm
    exact ⟨A, bx_ne k hg (fun e => BxS.apart k (e ▸ hX) (by decide) rfl), e⟩
  · obtain ⟨Y, k, e⟩ := h.rr s hs
    exact ⟨Y, bx_ne k hg (h.nb s hs), e⟩
  · obtain ⟨B, k, e⟩ := h.bb
    have eY : X = B := by
      unfold BxS at hX k
      rw [hX] at k
      injection k with k
      injection k
    subst eY
    refine ⟨_, hX', fun q hq => ?_⟩
    have hjs : j < X.size := (Array.getElem?_eq_some_iff.1 (e j hj)).1
    by_cases hqj : q = j
    · subst hqj
      rw [Array.getElem?_setIfInBounds_self_of_lt hjs]
      unfold upd1
      rw [if_pos rfl]
    · rw [Array.getElem?_setIfInBounds_ne (fun e => hqj e.symm)]
      unfold upd1
      rw [if_neg hqj]
      exact e q hq
theorem swp_lt [Add GF] [Mul GF] [OfNat GF 0] [OfNat GF 1] [L : Nonempty GL] {α : Type} (F : Nat → α) {i k r : Nat} (hi : i < n) (hk : k < n) (hr : r < n) : ∃ s, s < n ∧ swp F i k r = F s ∧ s = (if r = i then k else if r = k then i else r) := by
  unfold swp
  by_cases h1 : r = i
  · exact ⟨k, hk, by rw [if_pos h1], by rw [if_pos h1]⟩
  · by_cases h2 : r = k
    · exact ⟨i, hi, by rw [if_neg h1, if_pos h2], by rw [if_neg h1, if_pos h2]⟩
    · exact ⟨r, hr, by rw [if_neg h1, if_neg h2], by rw [if_neg h1, if_neg h2]⟩
/-- two rows change places: the first of the two writes is at i -/
theorem MT.swap [Add GF] [Mul GF] [OfNat GF 0] [OfNat GF 1] [L : Nonempty GL] (h : MT w lo gm gb n ρ cr M b) {w1 : World} {i k : Nat} (hi : i < n) (hk : k < n) {A : Array Value} (hA : BxS w gm 22 A) (g1 : w.grownBy w1 (some gm)) (g2 : w1.grownBy w' (some gm))
    (hA' : BxS w' gm 22 ((A.setIfInBounds i (.slice (some ⟨ρ k, 0, none⟩) n (cr k))).setIfInBounds k (.slice (some ⟨ρ i, 0, none⟩) n (cr i)))) : MT w' lo gm gb n (swp ρ i k) (swp cr i k) (swp M i k) b := by
  have hg := grown_trans g1 g2
  have ap : ∀ {g : Nat} {X : Array Value}, BxS w g 5 X → g ≠ gm := fun k e => BxS.apart k (e ▸ hA) (by decide) rfl
  refine ⟨h.lm, h.lb, fun r hr => ?_, ?_, fun r hr => ?_, ?_, fun r s hr hs e => ?_, fun r hr => ?_⟩
  · obtain ⟨s, hs, e, _⟩ := swp_lt ρ hi hk hr
    rw [e]; exact h.lr s hs
  · obtain ⟨A2, k2, e⟩ := h.mm
    have eY : A = A2 := by
      unfold BxS at hA k2
      rw [hA] at k2
      injection k2 with k2
      injection k2
    subst eY
    refine ⟨_, hA', fun r hr => ?_⟩
    have his : i < A.size := (Array.getElem?_eq_some_iff.1 (e i hi)).1
    have hks : k < A.size := (Array.getElem?_eq_some_iff.1 (e k hk)).1
    unfold swp
    by_cases h2 : r = k
    · subst h2
      rw [Array.getElem?_setIfInBounds_self_of_lt (by rw [Array.size_setIfInBounds]; exact hks)]
      by_cases h1 : r = i
      · subst h1; rw [if_pos rfl, if_pos rfl]
      · rw [if_neg h1, if_pos rfl, if_neg h1, if_pos rfl]
    · rw [Array.getElem?_setIfInBounds_ne (fun e => h2 e.symm)]
      by_cases h1 : r = i
      · subst h1
        rw [Array.getElem?_setIfInBounds_self_of_lt his, if_pos rfl, if_pos rfl]
      · rw [Array.getElem?_setIfInBounds_ne (fun e => h1 e.symm), if_neg h1, if_neg h2, if_neg h1, if_neg h2]
        exact e r hr
  · obtain ⟨s, hs, e, e2⟩ := swp_lt ρ hi hk hr
    obtain ⟨Y, k1, e3⟩ := h.rr s hs
    rw [e]
    refine ⟨Y, bx_ne k1 hg (ap k1), fun j hj => ?_⟩
    rw [e3 j hj]
    have e4 : swp M i k r = M s := by
      rw [e2]
      unfold swp
      by_cases h1 : r = i
      · rw [if_pos h1, if_pos h1]
      · by_cases h2 : r = k
        · rw [if_neg h1, if_pos h2, if_neg h1, if_pos h2]
        · rw [if_neg h1, if_neg h2, if_neg h1, if_neg h2]
    rw [e4]
  · obtain ⟨B, k1, e⟩ := h.bb
    exact ⟨B, bx_ne k1 hg (ap k1), e⟩
  · obtain ⟨s1, hs1, a1, a2⟩ := swp_lt ρ hi hk hr
    obtain ⟨s2, hs2, b1, b2⟩ := swp_lt ρ hi hk hs
    rw [a1, b1] at e
    have e5 := h.inj s1 s2 hs1 hs2 e
    rw [a2, b2] at e5
    by_cases x1 : r = i
    · rw [if_pos x1] at e5
      by_cases y1 : s = i
      · omega
      · rw [if_neg y1] at e5
        by_cases y2 : s = k
        · rw [if_pos y2] at e5; omega
        · rw [if_neg y2] at e5; omega
    · rw [if_neg x1] at e5
      by_cases x2 : r = k
      · rw [if_pos x2] at e5
        by_cases y1 : s = i
        · rw [if_pos y1] at e5; omega
        · rw [if_neg y1] at e5
          by_cases y2 : s = k
          · omega
          · rw [if_neg y2] at e5; omega
      · rw [if_neg x2] at e5
        by_cases y1 : s = i
        · rw [if_pos y1] at e5; omega
        · rw [if_neg y1] at e5
          by_cases y2 : s = k
          · rw [if_pos y2] at e5; omega
          · rw [if_neg y2] at e5; exact e5
  · obtain ⟨s, hs, e, _⟩ := swp_lt ρ hi hk hr
    rw [e]; exact h.nb s hs
end
end
end Go.Proofs.YtdcfgaibppenaaaDoor
