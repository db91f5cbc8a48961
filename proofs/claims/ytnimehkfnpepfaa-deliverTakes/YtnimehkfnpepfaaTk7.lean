import Derived.Test.YtnimehkfnpepfaaProg
import Derived.Deep.RegionHeld3
import Derived.Test.YtnimehkfnpepfaaTk1
import Derived.Test.YtnimehkfnpepfaaTk6
import Derived.Test.YtnimehkfnpepfaaTk2
namespace Go.Proofs.Ytnimehkfnpepfaa
open Go.RowKit
set_option maxRecDepth 100000
set_option linter.unusedVariables false
set_option linter.unusedSimpArgs false

section
section
variable {P : Program} {ops : Array Oper} {Q : Exit → Act → World → Prop} {md : Region.Mode} {S : World → Prop}
/-- whatever order is picked from here on, and S holds behind every operation but those of Z, the last ones -/
def wpAnyZ (P : Program) (md : Region.Mode) (ops : Array Oper) (Q : Exit → Act → World → Prop) (S : World → Prop) (Z : List Nat) : Nat → Array Bool → Act → World → Prop
  | 0, listed, a, w => Region.ready md ops listed = [] ∧ Q .normal a w
  | fuel + 1, listed, a, w =>
    (Region.ready md ops listed = [] → Q .normal a w) ∧
    ∀ i ∈ Region.ready md ops listed, wpOp P ops Q i (fun a' w' => (i ∉ Z → S w') ∧ wpAnyZ P md ops Q S Z fuel (listed.setIfInBounds i true) a' w') a w
theorem wpAny_of_Z (Z : List Nat) : ∀ (fuel : Nat) (listed : Array Bool) (a : Act) (w : World), wpAnyZ P md ops Q S Z fuel listed a w → wpAny P md ops Q fuel listed a w
  | 0, _, _, _, h => h
  | fuel + 1, _, _, _, h => ⟨h.1, fun i hi => wpOp_mono (fun a' w' h' => wpAny_of_Z Z fuel _ a' w' h'.2) (h.2 i hi)⟩
/-- those of C have not come up, and none of them can ahead of i -/
def waitZ (md : Region.Mode) (ops : Array Oper) (listed : Array Bool) (i : Nat) (C : List Nat) : Bool :=
  C.all fun c => !(listed.getD c true) && match ops[c]? with | some oc => oc.after.any (fun e => Region.binds md e && (e.on == i || C.contains e.on)) | none => false
theorem waitZ_no {listed : Array Bool} {i : Nat} {C : List Nat} (h : waitZ md ops listed i C = true) (hi : i ∈ Region.ready md ops listed) {j : Nat} (hj : j ∈ Region.ready md ops listed) : j ∉ C := by
  intro hc
  have h1 := List.all_eq_true.1 h j hc
  obtain ⟨hjun, oj, hoj, hall⟩ := mem_ready.1 hj
  simp only [hoj, Bool.and_eq_true, Bool.not_eq_true'] at h1
  obtain ⟨e, he, hb⟩ := Array.any_eq_true'.1 h1.2
  simp only [Bool.and_eq_true, Bool.or_eq_true, beq_iff_eq, List.contains_iff_mem] at hb
  have hd := hall e he hb.1
  have hun : listed.getD e.on true = false := by
    rcases hb.2 with h2 | h2
    · rw [h2]; exact (mem_ready.1 hi).1
    · have := List.all_eq_true.1 h e.on h2
      simp only [Bool.and_eq_true, Bool.not_eq_true'] at this
      exact this.1
  rcases Nat.lt_or_ge e.on listed.size with h' | h'
  · simp [h'] at hun hd; rw [hun] at hd; cases hd
  · simp [Array.getElem?_eq_none h'] at hun
theorem waitZ_step {listed : Array Bool} {i : Nat} {C : List Nat} (h : waitZ md ops listed i C = true) {j : Nat} (hj : j ∉ C) : waitZ md ops (listed.setIfInBounds j true) i C = true := by
  unfold waitZ at *
  rw [List.all_eq_true] at *
  intro c hc
  have h1 := h c hc
  have : j ≠ c := fun e => hj (e ▸ hc)
  rw [getD_set_ne true this]
  exact h1
theorem wpAnyZ_first {Z C : List Nat} (hz : ∀ z, z ∈ Z → z ∈ C) {i : Nat} {oi : Oper} {v : Value} (hi : ops[i]? = some oi) (hsel : ∀ (j : Nat) (o : Oper) cs b, ops[j]? = some o → o.op ≠ .select cs b)
    (hQ : ∀ c a w, Q (.panic c) (a.put oi.dst v) w → Q (.panic c) a w) :
    ∀ (fuel : Nat) (listed : Array Bool) (a : Act) (w : World),
      (∀ j oj, ops[j]? = some oj → j ≠ i → listed.getD j true = false → (∀ e ∈ oj.after, Region.binds md e = true → e.on ≠ i) → oi.apart ops oj = true) →
      i ∈ Region.ready md ops listed → waitZ md ops listed i C = true → YieldsIf P ops S oi v a → S w →
      wpAnyZ P md ops Q S Z fuel (listed.setIfInBounds i true) (a.put oi.dst v) w → wpAnyZ P md ops Q S Z (fuel + 1) listed a w := by
  intro fuel
  induction fuel with
  | zero =>
    intro listed a w _ hr hW hy hS H
    refine ⟨fun h => (by rw [h] at hr; cases hr), fun j hj => ?_⟩
    by_cases hji : j = i
    · subst hji; exact hy.wpOp hi hS ⟨fun _ => hS, H⟩
    · have := ready_mono hj hji
      rw [H.1] at this
      cases this
  | succ fuel ih =>
    intro listed a w hfree hr hW hy hS H
    refine ⟨fun h => (by rw [h] at hr; cases hr), fun j hj => ?_⟩
    by_cases hji : j = i
    · subst hji; exact hy.wpOp hi hS ⟨fun _ => hS, H⟩
    · have hjC := waitZ_no hW hr hj
      have hjz : j ∉ Z := fun e => hjC (hz j e)
      have h1 := H.2 j (ready_mono hj hji)
      obtain ⟨hjun, oj, hoj, hall⟩ := mem_ready.1 hj
      have hnot : ∀ e ∈ oj.after, Region.binds md e = true → e.on ≠ i := fun e he hb heq => by
        have h1 := hall e he hb
        have h0 := (mem_ready.1 hr).1
        rw [heq] at h1
        rcases Nat.lt_or_ge i listed.size with h' | h'
        · simp [h'] at h0 h1; rw [h0] at h1; cases h1
        · simp [Array.getElem?_eq_none h'] at h1
      have h2 := wpOp_putIf hoj (hfree j oj hoj hji hjun hnot) (fun cs b => hsel i oi cs b hi) (fun cs b => hsel j oj cs b hoj) hQ hy h1
      have hfree' : ∀ k ok, ops[k]? = some ok → k ≠ i → (listed.setIfInBounds j true).getD k true = false →
          (∀ e ∈ ok.after, Region.binds md e = true → e.on ≠ i) → oi.apart ops ok = true := fun k ok hk hki hun hno => by
        refine hfree k ok hk hki ?_ hno
        by_cases hjk : j = k
        · subst hjk; exact hjun
        · rw [getD_set_ne true hjk] at hun; exact hun
      refine wpOp_mono (fun a' w' h3 => ⟨h3.2.1, ih (listed.setIfInBounds j true) a' w' hfree' (ready_mono hr (Ne.symm hji)) (waitZ_step hW hjC) h3.1 (h3.2.1 hjz) ?_⟩) h2
      rw [Array.setIfInBounds_comm _ _ hji]
      exact h3.2.2
/-- take number i first -/
theorem wpAnyZ_take {Z : List Nat} (C : List Nat) (i : Nat) {oi : Oper} (v : Value) {fuel : Nat} {listed : Array Bool} {a : Act} {w : World} (hi : ops[i]? = some oi)
    (hs : ((Z.all fun z => C.contains z) && Region.noSelect ops && Region.free md ops listed i && (Region.ready md ops listed).contains i && waitZ md ops listed i C) = true)
    (hQ : ∀ c a w, Q (.panic c) (a.put oi.dst v) w → Q (.panic c) a w) (hS : S w) (hw : Region.wanted oi (yielded ops a.tmps) = true) (hy : ∀ w, S w → (execOp a.eval oi).run P w = .ok (.value v) w)
    (h : wpAnyZ P md ops Q S Z fuel (listed.setIfInBounds i true) (a.put oi.dst v) w) : wpAnyZ P md ops Q S Z (fuel + 1) listed a w := by
  simp only [Bool.and_eq_true, List.contains_iff_mem, List.all_eq_true] at hs
  exact wpAnyZ_first hs.1.1.1.1 hi (Region.noSelect_spec hs.1.1.1.2) hQ fuel listed a w (Region.free_spec hi hs.1.1.2) hs.1.2 hs.2 (.inl ⟨hw, hy⟩) hS h
/-- one alone may come up -/
theorem wpAnyZ_one {Z : List Nat} (i : Nat) {o : Oper} {fuel : Nat} {listed : Array Bool} {a : Act} {w : World} (ho : ops[i]? = some o) (hr : Region.ready md ops listed = [i])
    (h : ∀ K' : Act → World → Prop, (∀ a w, (i ∉ Z → S w) → wpAnyZ P md ops Q S Z fuel (listed.setIfInBounds i true) a w → K' a w) → if Region.wanted o (yielded ops a.tmps) = true then Oper.wp P o a w K' Q else K' (a.put o.dst undef) w) :
    wpAnyZ P md ops Q S Z (fuel + 1) listed a w := by
  refine ⟨fun h0 => (by rw [hr] at h0; cases h0), fun j hj => ?_⟩
  rw [hr] at hj
  have e := List.mem_singleton.1 hj
  subst e
  exact wpOp_step ho (fun K' hK => h K' (fun a w hS hW => hK a w ⟨hS, hW⟩))
theorem wpAnyZ_done {Z : List Nat} {listed : Array Bool} {a : Act} {w : World} (hr : Region.ready md ops listed = []) (h : Q .normal a w) : ∀ fuel, wpAnyZ P md ops Q S Z fuel listed a w
  | 0 => ⟨hr, h⟩
  | _ + 1 => ⟨fun _ => h, by rw [hr]; simp⟩
theorem wp_regionZ {id : Nat} {a : Act} {w : World} (S : World → Prop) (Z : List Nat) (hm : P.follows .mixedOrders = true)
    (h : wpAnyZ P .any ops Q S Z ops.size (Array.replicate ops.size false) a w.drew) : (Code.region id ops true).wp P Q a w :=
  wp_region_any hm (wpAny_of_Z Z _ _ _ _ h)
end

section
variable {P : Program} {ops : Array Oper} {Q : Exit → Act → World → Prop} {md : Region.Mode} {S : World → Prop}
/-- what yields in whatever world may be taken first, whatever of Z comes up ahead of it -/
theorem wpAnyZ_firstF {Z : List Nat} {i : Nat} {oi : Oper} {v : Value} (hz : i ∈ Z) (hi : ops[i]? = some oi) (hsel : ∀ (j : Nat) (o : Oper) cs b, ops[j]? = some o → o.op ≠ .select cs b)
    (hQ : ∀ c a w, Q (.panic c) (a.put oi.dst v) w → Q (.panic c) a w) :
    ∀ (fuel : Nat) (listed : Array Bool) (a : Act) (w : World),
      (∀ j oj, ops[j]? = some oj → j ≠ i → listed.getD j true = false → (∀ e ∈ oj.after, Region.binds md e = true → e.on ≠ i) → oi.apart ops oj = true) →
      i ∈ Region.ready md ops listed → YieldsIf P ops (fun _ => True) oi v a →
      wpAnyZ P md ops Q S Z fuel (listed.setIfInBounds i true) (a.put oi.dst v) w → wpAnyZ P md ops Q S Z (fuel + 1) listed a w := by
  intro fuel
  induction fuel with
  | zero =>
    intro listed a w _ hr hy H
    refine ⟨fun h => (by rw [h] at hr; cases hr), fun j hj => ?_⟩
    by_cases hji : j = i
    · subst hji; exact hy.wpOp hi trivial ⟨fun h => absurd hz h, H⟩
    · have := ready_mono hj hji
      rw [H.1] at this
      cases this
  | succ fuel ih =>
    intro listed a w hfree hr hy H
    refine ⟨fun h => (by rw [h] at hr; cases hr), fun j hj => ?_⟩
    by_cases hji : j = i
    · subst hji; exact hy.wpOp hi trivial ⟨fun h => absurd hz h, H⟩
    · have h1 := H.2 j (ready_mono hj hji)
      obtain ⟨hjun, oj, hoj, hall⟩ := mem_ready.1 hj
      have hnot : ∀ e ∈ oj.after, Region.binds md e = true → e.on ≠ i := fun e he hb heq => by
        have h1 := hall e he hb
        have h0 := (mem_ready.1 hr).1
        rw [heq] at h1
        rcases Nat.lt_or_ge i listed.size with h' | h'
        · simp [h'] at h0 h1; rw [h0] at h1; cases h1
        · simp [Array.getElem?_eq_none h'] at h1
      have h2 := wpOp_putIf hoj (hfree j oj hoj hji hjun hnot) (fun cs b => hsel i oi cs b hi) (fun cs b => hsel j oj cs b hoj) hQ hy h1
      have hfree' : ∀ k ok, ops[k]? = some ok → k ≠ i → (listed.setIfInBounds j true).getD k true = false →
          (∀ e ∈ ok.after, Region.binds md e = true → e.on ≠ i) → oi.apart ops ok = true := fun k ok hk hki hun hno => by
        refine hfree k ok hk hki ?_ hno
        by_cases hjk : j = k
        · subst hjk; exact hjun
        · rw [getD_set_ne true hjk] at hun; exact hun
      refine wpOp_mono (fun a' w' h3 => ⟨h3.2.1, ih (listed.setIfInBounds j true) a' w' hfree' (ready_mono hr (Ne.symm hji)) h3.1 ?_⟩) h2
      rw [Array.setIfInBounds_comm _ _ hji]
      exact h3.2.2
theorem wpAnyZ_takeF {Z : List Nat} (i : Nat) {oi : Oper} (v : Value) {fuel : Nat} {listed : Array Bool} {a : Act} {w : World} (hi : ops[i]? = some oi)
    (hs : (Z.contains i && Region.noSelect ops && Region.free md ops listed i && (Region.ready md ops listed).contains i) = true)
    (hQ : ∀ c a w, Q (.panic c) (a.put oi.dst v) w → Q (.panic c) a w) (hw : Region.wanted oi (yielded ops a.tmps) = true) (hy : ∀ w, (execOp a.eval oi).run P w = .ok (.value v) w)
    (h : wpAnyZ P md ops Q S Z fuel (listed.setIfInBounds i true) (a.put oi.dst v) w) : wpAnyZ P md ops Q S Z (fuel + 1) listed a w := by
  simp only [Bool.and_eq_true, List.contains_iff_mem] at hs
  exact wpAnyZ_firstF hs.1.1.1 hi (Region.noSelect_spec hs.1.1.2) hQ fuel listed a w (Region.free_spec hi hs.1.2) hs.2 (.inl ⟨hw, fun w _ => hy w⟩) h
end
theorem wp_regionL {P : Program} {ops : Array Oper} {Q : Exit → Act → World → Prop} {id : Nat} {a : Act} {w : World} (S : World → Prop) (Z : List Nat) (L0 : Array Bool) (hL : Array.replicate ops.size false = L0) (hm : P.follows .mixedOrders = true)
    (h : wpAnyZ P .any ops Q S Z ops.size L0 a w.drew) : (Code.region id ops true).wp P Q a w := by
  subst hL
  exact wp_regionZ S Z hm h
theorem wpAnyZ_oneB {P : Program} {ops : Array Oper} {Q : Exit → Act → World → Prop} {md : Region.Mode} {S : World → Prop} {Z : List Nat} (i : Nat) {o : Oper} {fuel : Nat} {listed : Array Bool} {a : Act} {w : World} (ho : ops[i]? = some o) (hr : (Region.ready md ops listed == [i]) = true)
    (h : ∀ K' : Act → World → Prop, (∀ a w, (i ∉ Z → S w) → wpAnyZ P md ops Q S Z fuel (listed.setIfInBounds i true) a w → K' a w) → if Region.wanted o (yielded ops a.tmps) = true then Oper.wp P o a w K' Q else K' (a.put o.dst undef) w) :
    wpAnyZ P md ops Q S Z (fuel + 1) listed a w := wpAnyZ_one i ho (eq_of_beq hr) h
theorem wpAnyZ_doneB {P : Program} {ops : Array Oper} {Q : Exit → Act → World → Prop} {md : Region.Mode} {S : World → Prop} {Z : List Nat} {listed : Array Bool} {a : Act} {w : World} (hr : (Region.ready md ops listed == []) = true) (h : Q .normal a w) (fuel : Nat) : wpAnyZ P md ops Q S Z fuel listed a w := wpAnyZ_done (eq_of_beq hr) h fuel
end

section
/-- a whole value is stored into a box, in a region that draws -/
theorem step_stX (w : World) {ops : Array Oper} {o : Oper} {a : Act} {K : Act → World → Prop} {Q : Exit → Act → World → Prop} {E : Prop} (hg : o.guard = none) (t : TypeId) (p v : Operand) (hop : o.op = Op.store t p v)
    (g : Nat) (cs ds : Array Value) (hp : a.eval p = .pointer (some ⟨g, 0, none⟩)) (hv : a.eval v = .agg ds) (h : BxS w g t cs) (hi : (Try.prog.info? t).map (·.size) = some ds.size) (ho : cs.size = ds.size) (h1 : ds.all (·.oneCell') = true)
    (hK : ∀ w', BxS w' g t ds → w.grownBy w' (some g) → K (a.put o.dst undef) w') :
    if Region.wanted o (yielded ops a.tmps) = true then Oper.wp Try.prog o a w K Q else E := by
  have hw : Region.wanted o (yielded ops a.tmps) = true := by simp [Region.wanted, hg]
  rw [if_pos hw]
  have hst : (Instr.storeAt t (.pointer (some ⟨g, 0, none⟩)) (.agg ds)).run Try.prog w = .ok () (w.setRow g ds) := by
    simp only [Instr.storeAt, Instr.sureAddr, Sem.run_bind, Sem.run_pure, Result.andThen]
    exact run_storeVar_row w g t t cs ds h hi ho h1
  have hfin := hK _ (h.row ds) ⟨rfl, rfl, rfl, by simp, fun k _ hk => setRow_other w g k _ (fun e => hk (by rw [e]))⟩
  unfold Oper.wp
  simp [execOp, hop, hp, hv, hst, Result.andThen, Oper.upon]
  exact hfin
end

section
def gpF (G : List (Nat × Nat)) (i : Nat) : Int × Int := (((G.getD i (0, 0)).1 : Int), ((G.getD i (0, 0)).2 : Int))
/-- pairs in new memory -/
structure OwGp (w : World) (lo : Nat) (q : Option Addr) (m d : Nat) (G : List (Nat × Nat)) : Prop where
  own : w.ownsRow 0 82 2 (.slice q m d) m (flG (gpF G) m)
  len : G.length = m
  new : ∀ g, (Value.slice q m d).ownBlock = some g → lo ≤ g
theorem OwGp.nil (w : World) (lo : Nat) : OwGp w lo none 0 0 [] := ⟨World.ownsRow_nil _ _ _ _, rfl, fun g h => by cases h⟩
theorem Rdr.keep {w0 w w' : World} {gr : Nat} {D : List Nat} (h : Rdr w0 w gr D) (hg : w.grownBy w' none) : Rdr w0 w' gr D := by
  obtain ⟨a, n, c, b, r⟩ := h.ex
  exact ⟨h.lo, ⟨a, n, c, b.keep hg (by simp), r⟩, grown_trans h.g hg⟩
/-- a note's box is written -/
theorem Rdr.bx {w0 w w' : World} {gr g : Nat} {D : List Nat} {cs : Array Value} (h : Rdr w0 w gr D) (b : BxS w g 27 cs) (hg : w.grownBy w' (some g)) (hl : w0.heap.size ≤ g) : Rdr w0 w' gr D := by
  obtain ⟨a, n, c, b1, r⟩ := h.ex
  exact ⟨h.lo, ⟨a, n, c, b1.keep hg (fun e => BxS.apart b1 b (by decide) (Option.some.inj e)), r⟩, grown_far h.g hg (fun q e => by have e := Option.some.inj e; omega)⟩
theorem Rdr.ne {w0 w : World} {gr g : Nat} {D : List Nat} {cs : Array Value} (h : Rdr w0 w gr D) (b : BxS w g 27 cs) : some g ≠ some gr := by
  obtain ⟨a, n, c, b1, r⟩ := h.ex
  exact fun e => BxS.apart b b1 (by decide) (Option.some.inj e)
end

section
theorem step_stCd (w : World) {ops : Array Oper} {o : Oper} {a : Act} {K : Act → World → Prop} {Q : Exit → Act → World → Prop} {E : Prop} (hg : o.guard = none) (t : TypeId) (p x : Operand) (hop : o.op = Op.store t p x)
    (g i : Nat) (ty : TypeId) (A A' : Array Value) (v : Value) (hp : a.eval p = .pointer (some ⟨g, i, none⟩)) (hx : a.eval x = v) (hB : BxS w g ty A)
    (hst : ∀ w' : World, (∃ u, w'.cell? ⟨g, i, none⟩ = some u) → w'.frozen? ⟨g, i, none⟩ = false → (Instr.storeAt t (.pointer (some ⟨g, i, none⟩)) v).run Try.prog w' = .ok () (w'.setCell ⟨g, i, none⟩ v)) (hi : i < A.size) (hA : A.setIfInBounds i v = A')
    (hK : ∀ w', BxS w' g ty A' → w.grownBy w' (some g) → K (a.put o.dst undef) w') :
    if Region.wanted o (yielded ops a.tmps) = true then Oper.wp Try.prog o a w K Q else E := by
  have hw : Region.wanted o (yielded ops a.tmps) = true := by simp [Region.wanted, hg]
  rw [if_pos hw]
  have hc : ∃ u, w.cell? ⟨g, i, none⟩ = some u := ⟨A[i], by rw [cell_of_row w g i _ _ _ hB]; simp [hi]⟩
  have hf := frozen_of_row w g i _ _ hB
  have hfin := hK _ (by unfold BxS; rw [heap_setCell_same w g i _ _ _ hB, hA]) (grown_set w g i v)
  unfold Oper.wp
  simp [execOp, hop, hp, hx, hst w hc hf, Result.andThen, Oper.upon]
  exact hfin
/-- a block of another type is written -/
theorem OwGp.bx {w w' : World} {lo : Nat} {q : Option Addr} {m d g : Nat} {G : List (Nat × Nat)} {t : TypeId} {cs : Array Value} (h : OwGp w lo q m d G) (b : BxS w g t cs) (ht : 82 ≠ t) (hg : w.grownBy w' (some g)) : OwGp w' lo q m d G := by
  refine ⟨h.own.kept hg (.inr (fun e => ?_)), h.len, h.new⟩
  rcases h.own.2 with ⟨h1, _⟩ | ⟨g', cap', cur, h1, _, h3, _⟩
  · rw [h1] at e; cases e
  · rw [h1] at e
    have e : g' = g := Option.some.inj e
    subst e
    have b : w.heap[g']? = some (.cells cs t) := b
    rw [h3] at b
    injection b with b
    injection b with _ b
    exact ht b
theorem OwGp.keep {w w' : World} {lo : Nat} {q : Option Addr} {m d : Nat} {G : List (Nat × Nat)} (h : OwGp w lo q m d G) (hg : w.grownBy w' none) : OwGp w' lo q m d G := ⟨h.own.kept hg (by cases hq : (Value.slice q m d).ownBlock with | none => exact .inl rfl | some z => exact .inr (by simp)), h.len, h.new⟩
end

section
/-- a taker's cells -/
def tkA (id : Int) (kn : Bool) (nm : ByteArray) (si : Int) (en : Bool) (la su : Int) (ha fl : Value) (st ti pa tr li : Int) : Array Value := #[.int .i64 id, .bool kn, .string nm, .int .i64 si, .bool en, .int .i64 la, .int .i64 su, ha, fl, .int .i64 st, .int .i64 ti, .int .i64 pa, .int .i64 tr, .int .i64 li]
/-- what Expect answers -/
def ExA (id pa li : Int) (w w' : World) (e : Ending) : Prop :=
  e = .returned (.tuple #[.agg (tkA (ofX (dsE id pa li) id) false ⟨#[]⟩ 0 false 0 0 (.slice none 0 0) (.slice none 0 0) 0 0 (ofX (dsE id pa li) pa) 0 (ofX (dsE id pa li) li)), .int .i64 (dsE id pa li : Nat)]) ∧ w.grownBy w' none
set_option maxHeartbeats 8000000 in
theorem expected_any (id pa li : Int) (w : World) : Calls Try.prog 26 #[.int .i64 id, .int .i64 pa, .int .i64 li] w fun e w' => ExA id pa li w w' e := by
  have h0 := fun wz => inRange_any id 0 65535 wz
  have h1 := fun wz => inRange_any pa 1 1000 wz
  have h2 := fun wz => inRange_any li 1 100 wz
  have b0 := BxS.new w 48 #[.int .i64 0, .bool false, .string ⟨#[]⟩, .int .i64 0, .bool false, .int .i64 0, .int .i64 0, .slice none 0 0, .slice none 0 0, .int .i64 0, .int .i64 0, .int .i64 0, .int .i64 0, .int .i64 0]
  have g0 := World.grownBy_alloc w (.cells #[.int .i64 0, .bool false, .string ⟨#[]⟩, .int .i64 0, .bool false, .int .i64 0, .int .i64 0, .slice none 0 0, .slice none 0 0, .int .i64 0, .int .i64 0, .int .i64 0, .int .i64 0, .int .i64 0] 48) none
  have i14 := Try.info_tk
  generalize hw0 : w.alloc (.cells #[.int .i64 0, .bool false, .string ⟨#[]⟩, .int .i64 0, .bool false, .int .i64 0, .int .i64 0, .slice none 0 0, .slice none 0 0, .int .i64 0, .int .i64 0, .int .i64 0, .int .i64 0, .int .i64 0] 48) = w0 at b0 g0
  have hz0 : w0.heap.size = w.heap.size + 1 := by rw [← hw0]; simp
  have t2 : True := trivial
  unfold ExA dsE
  unfold dsB
  generalize kwB id 0 65535 = b0 at h0 ⊢
  generalize kwB pa 1 1000 = b1 at h1 ⊢
  generalize kwB li 1 100 = b2 at h2 ⊢
  cases b0
  case false =>
    go_enter Try.func26, Try.ntmps26
    go_wp2_with (first
      | (go_at_call 55; (with_reducible first | refine (h0 _).mono ?_ | refine (h1 _).mono ?_ | refine (h2 _).mono ?_); rintro e w1 ⟨rfl, rfl⟩)
      | (have _t := t2; (first | refine wpList_stX _ rfl _ (.tmp 6) (.tmp 9) rfl w.heap.size _ _ rfl rfl b0 i14 rfl (by simp [Value.oneCell']) ?_ | refine wpList_stX _ rfl _ (.tmp 6) (.tmp 10) rfl w.heap.size _ _ rfl rfl b0 i14 rfl (by simp [Value.oneCell']) ?_ | refine wpList_stX _ rfl _ (.tmp 6) (.tmp 11) rfl w.heap.size _ _ rfl rfl b0 i14 rfl (by simp [Value.oneCell']) ?_ | refine wpList_stX _ rfl _ (.tmp 6) (.tmp 12) rfl w.heap.size _ _ rfl rfl b0 i14 rfl (by simp [Value.oneCell']) ?_ | refine wpList_stX _ rfl _ (.tmp 6) (.tmp 13) rfl w.heap.size _ _ rfl rfl b0 i14 rfl (by simp [Value.oneCell']) ?_ | refine wpList_stX _ rfl _ (.tmp 6) (.tmp 14) rfl w.heap.size _ _ rfl rfl b0 i14 rfl (by simp [Value.oneCell']) ?_ | refine wpList_stX _ rfl _ (.tmp 6) (.tmp 15) rfl w.heap.size _ _ rfl rfl b0 i14 rfl (by simp [Value.oneCell']) ?_ | refine wpList_stX _ rfl _ (.tmp 6) (.tmp 16) rfl w.heap.size _ _ rfl rfl b0 i14 rfl (by simp [Value.oneCell']) ?_ | refine wpList_stX _ rfl _ (.tmp 6) (.tmp 17) rfl w.heap.size _ _ rfl rfl b0 i14 rfl (by simp [Value.oneCell']) ?_ | refine wpList_stX _ rfl _ (.tmp 6) (.tmp 18) rfl w.heap.size _ _ rfl rfl b0 i14 rfl (by simp [Value.oneCell']) ?_ | refine wpList_stX _ rfl _ (.tmp 6) (.tmp 19) rfl w.heap.size _ _ rfl rfl b0 i14 rfl (by simp [Value.oneCell']) ?_ | refine wpList_stX _ rfl _ (.tmp 6) (.tmp 20) rfl w.heap.size _ _ rfl rfl b0 i14 rfl (by simp [Value.oneCell']) ?_ | refine wpList_stX _ rfl _ (.tmp 6) (.tmp 21) rfl w.heap.size _ _ rfl rfl b0 i14 rfl (by simp [Value.oneCell']) ?_ | refine wpList_stX _ rfl _ (.tmp 6) (.tmp 22) rfl w.heap.size _ _ rfl rfl b0 i14 rfl (by simp [Value.oneCell']) ?_ | refine wpList_stX _ rfl _ (.tmp 6) (.tmp 23) rfl w.heap.size _ _ rfl rfl b0 i14 rfl (by simp [Value.oneCell']) ?_ | refine wpList_stX _ rfl _ (.tmp 6) (.tmp 24) rfl w.heap.size _ _ rfl rfl b0 i14 rfl (by simp [Value.oneCell']) ?_ | refine wpList_stX _ rfl _ (.tmp 6) (.tmp 25) rfl w.heap.size _ _ rfl rfl b0 i14 rfl (by simp [Value.oneCell']) ?_ | refine wpList_stX _ rfl _ (.tmp 6) (.tmp 26) rfl w.heap.size _ _ rfl rfl b0 i14 rfl (by simp [Value.oneCell']) ?_ | refine wpList_stX _ rfl _ (.tmp 6) (.tmp 27) rfl w.heap.size _ _ rfl rfl b0 i14 rfl (by simp [Value.oneCell']) ?_ | refine wpList_stX _ rfl _ (.tmp 6) (.tmp 28) rfl w.heap.size _ _ rfl rfl b0 i14 rfl (by simp [Value.oneCell']) ?_ | refine wpList_stX _ rfl _ (.tmp 6) (.tmp 29) rfl w.heap.size _ _ rfl rfl b0 i14 rfl (by simp [Value.oneCell']) ?_ | refine wpList_stX _ rfl _ (.tmp 6) (.tmp 30) rfl w.heap.size _ _ rfl rfl b0 i14 rfl (by simp [Value.oneCell']) ?_ | refine wpList_stX _ rfl _ (.tmp 6) (.tmp 31) rfl w.heap.size _ _ rfl rfl b0 i14 rfl (by simp [Value.oneCell']) ?_ | refine wpList_stX _ rfl _ (.tmp 6) (.tmp 32) rfl w.heap.size _ _ rfl rfl b0 i14 rfl (by simp [Value.oneCell']) ?_ | refine wpList_stX _ rfl _ (.tmp 6) (.tmp 33) rfl w.heap.size _ _ rfl rfl b0 i14 rfl (by simp [Value.oneCell']) ?_); clear t2; intro w9 b9 g9))
    refine bodyPost_ret (results_cell1t rfl _ _ _ ⟨w.heap.size, 0, none⟩ _ (.int .i64 2) rfl (BxS.load (t := 48) b9 Try.underlying48 i14) rfl) rfl ?_
    exact ⟨rfl, grown_far g0 g9 (fun q e => by have e : w.heap.size = q := Option.some.inj e; omega)⟩
  cases b1
  case false =>
    go_enter Try.func26, Try.ntmps26
    go_wp2_with (first
      | (go_at_call 55; (with_reducible first | refine (h0 _).mono ?_ | refine (h1 _).mono ?_ | refine (h2 _).mono ?_); rintro e w1 ⟨rfl, rfl⟩)
      | (have _t := t2; (first | refine wpList_stX _ rfl _ (.tmp 6) (.tmp 9) rfl w.heap.size _ _ rfl rfl b0 i14 rfl (by simp [Value.oneCell']) ?_ | refine wpList_stX _ rfl _ (.tmp 6) (.tmp 10) rfl w.heap.size _ _ rfl rfl b0 i14 rfl (by simp [Value.oneCell']) ?_ | refine wpList_stX _ rfl _ (.tmp 6) (.tmp 11) rfl w.heap.size _ _ rfl rfl b0 i14 rfl (by simp [Value.oneCell']) ?_ | refine wpList_stX _ rfl _ (.tmp 6) (.tmp 12) rfl w.heap.size _ _ rfl rfl b0 i14 rfl (by simp [Value.oneCell']) ?_ | refine wpList_stX _ rfl _ (.tmp 6) (.tmp 13) rfl w.heap.size _ _ rfl rfl b0 i14 rfl (by simp [Value.oneCell']) ?_ | refine wpList_stX _ rfl _ (.tmp 6) (.tmp 14) rfl w.heap.size _ _ rfl rfl b0 i14 rfl (by simp [Value.oneCell']) ?_ | refine wpList_stX _ rfl _ (.tmp 6) (.tmp 15) rfl w.heap.size _ _ rfl rfl b0 i14 rfl (by simp [Value.oneCell']) ?_ | refine wpList_stX _ rfl _ (.tmp 6) (.tmp 16) rfl w.heap.size _ _ rfl rfl b0 i14 rfl (by simp [Value.oneCell']) ?_ | refine wpList_stX _ rfl _ (.tmp 6) (.tmp 17) rfl w.heap.size _ _ rfl rfl b0 i14 rfl (by simp [Value.oneCell']) ?_ | refine wpList_stX _ rfl _ (.tmp 6) (.tmp 18) rfl w.heap.size _ _ rfl rfl b0 i14 rfl (by simp [Value.oneCell']) ?_ | refine wpList_stX _ rfl _ (.tmp 6) (.tmp 19) rfl w.heap.size _ _ rfl rfl b0 i14 rfl (by simp [Value.oneCell']) ?_ | refine wpList_stX _ rfl _ (.tmp 6) (.tmp 20) rfl w.heap.size _ _ rfl rfl b0 i14 rfl (by simp [Value.oneCell']) ?_ | refine wpList_stX _ rfl _ (.tmp 6) (.tmp 21) rfl w.heap.size _ _ rfl rfl b0 i14 rfl (by simp [Value.oneCell']) ?_ | refine wpList_stX _ rfl _ (.tmp 6) (.tmp 22) rfl w.heap.size _ _ rfl rfl b0 i14 rfl (by simp [Value.oneCell']) ?_ | refine wpList_stX _ rfl _ (.tmp 6) (.tmp 23) rfl w.heap.size _ _ rfl rfl b0 i14 rfl (by simp [Value.oneCell']) ?_ | refine wpList_stX _ rfl _ (.tmp 6) (.tmp 24) rfl w.heap.size _ _ rfl rfl b0 i14 rfl (by simp [Value.oneCell']) ?_ | refine wpList_stX _ rfl _ (.tmp 6) (.tmp 25) rfl w.heap.size _ _ rfl rfl b0 i14 rfl (by simp [Value.oneCell']) ?_ | refine wpList_stX _ rfl _ (.tmp 6) (.tmp 26) rfl w.heap.size _ _ rfl rfl b0 i14 rfl (by simp [Value.oneCell']) ?_ | refine wpList_stX _ rfl _ (.tmp 6) (.tmp 27) rfl w.heap.size _ _ rfl rfl b0 i14 rfl (by simp [Value.oneCell']) ?_ | refine wpList_stX _ rfl _ (.tmp 6) (.tmp 28) rfl w.heap.size _ _ rfl rfl b0 i14 rfl (by simp [Value.oneCell']) ?_ | refine wpList_stX _ rfl _ (.tmp 6) (.tmp 29) rfl w.heap.size _ _ rfl rfl b0 i14 rfl (by simp [Value.oneCell']) ?_ | refine wpList_stX _ rfl _ (.tmp 6) (.tmp 30) rfl w.heap.size _ _ rfl rfl b0 i14 rfl (by simp [Value.oneCell']) ?_ | refine wpList_stX _ rfl _ (.tmp 6) (.tmp 31) rfl w.heap.size _ _ rfl rfl b0 i14 rfl (by simp [Value.oneCell']) ?_ | refine wpList_stX _ rfl _ (.tmp 6) (.tmp 32) rfl w.heap.size _ _ rfl rfl b0 i14 rfl (by simp [Value.oneCell']) ?_ | refine wpList_stX _ rfl _ (.tmp 6) (.tmp 33) rfl w.heap.size _ _ rfl rfl b0 i14 rfl (by simp [Value.oneCell']) ?_); clear t2; intro w9 b9 g9))
    refine bodyPost_ret (results_cell1t rfl _ _ _ ⟨w.heap.size, 0, none⟩ _ (.int .i64 2) rfl (BxS.load (t := 48) b9 Try.underlying48 i14) rfl) rfl ?_
    exact ⟨rfl, grown_far g0 g9 (fun q e => by have e : w.heap.size = q := Option.some.inj e; omega)⟩
  cases b2
  case false =>
    go_enter Try.func26, Try.ntmps26
    go_wp2_with (first
      | (go_at_call 55; (with_reducible first | refine (h0 _).mono ?_ | refine (h1 _).mono ?_ | refine (h2 _).mono ?_); rintro e w1 ⟨rfl, rfl⟩)
      | (have _t := t2; (first | refine wpList_stX _ rfl _ (.tmp 6) (.tmp 9) rfl w.heap.size _ _ rfl rfl b0 i14 rfl (by simp [Value.oneCell']) ?_ | refine wpList_stX _ rfl _ (.tmp 6) (.tmp 10) rfl w.heap.size _ _ rfl rfl b0 i14 rfl (by simp [Value.oneCell']) ?_ | refine wpList_stX _ rfl _ (.tmp 6) (.tmp 11) rfl w.heap.size _ _ rfl rfl b0 i14 rfl (by simp [Value.oneCell']) ?_ | refine wpList_stX _ rfl _ (.tmp 6) (.tmp 12) rfl w.heap.size _ _ rfl rfl b0 i14 rfl (by simp [Value.oneCell']) ?_ | refine wpList_stX _ rfl _ (.tmp 6) (.tmp 13) rfl w.heap.size _ _ rfl rfl b0 i14 rfl (by simp [Value.oneCell']) ?_ | refine wpList_stX _ rfl _ (.tmp 6) (.tmp 14) rfl w.heap.size _ _ rfl rfl b0 i14 rfl (by simp [Value.oneCell']) ?_ | refine wpList_stX _ rfl _ (.tmp 6) (.tmp 15) rfl w.heap.size _ _ rfl rfl b0 i14 rfl (by simp [Value.oneCell']) ?_ | refine wpList_stX _ rfl _ (.tmp 6) (.tmp 16) rfl w.heap.size _ _ rfl rfl b0 i14 rfl (by simp [Value.oneCell']) ?_ | refine wpList_stX _ rfl _ (.tmp 6) (.tmp 17) rfl w.heap.size _ _ rfl rfl b0 i14 rfl (by simp [Value.oneCell']) ?_ | refine wpList_stX _ rfl _ (.tmp 6) (.tmp 18) rfl w.heap.size _ _ rfl rfl b0 i14 rfl (by simp [Value.oneCell']) ?_ | refine wpList_stX _ rfl _ (.tmp 6) (.tmp 19) rfl w.heap.size _ _ rfl rfl b0 i14 rfl (by simp [Value.oneCell']) ?_ | refine wpList_stX _ rfl _ (.tmp 6) (.tmp 20) rfl w.heap.size _ _ rfl rfl b0 i14 rfl (by simp [Value.oneCell']) ?_ | refine wpList_stX _ rfl _ (.tmp 6) (.tmp 21) rfl w.heap.size _ _ rfl rfl b0 i14 rfl (by simp [Value.oneCell']) ?_ | refine wpList_stX _ rfl _ (.tmp 6) (.tmp 22) rfl w.heap.size _ _ rfl rfl b0 i14 rfl (by simp [Value.oneCell']) ?_ | refine wpList_stX _ rfl _ (.tmp 6) (.tmp 23) rfl w.heap.size _ _ rfl rfl b0 i14 rfl (by simp [Value.oneCell']) ?_ | refine wpList_stX _ rfl _ (.tmp 6) (.tmp 24) rfl w.heap.size _ _ rfl rfl b0 i14 rfl (by simp [Value.oneCell']) ?_ | refine wpList_stX _ rfl _ (.tmp 6) (.tmp 25) rfl w.heap.size _ _ rfl rfl b0 i14 rfl (by simp [Value.oneCell']) ?_ | refine wpList_stX _ rfl _ (.tmp 6) (.tmp 26) rfl w.heap.size _ _ rfl rfl b0 i14 rfl (by simp [Value.oneCell']) ?_ | refine wpList_stX _ rfl _ (.tmp 6) (.tmp 27) rfl w.heap.size _ _ rfl rfl b0 i14 rfl (by simp [Value.oneCell']) ?_ | refine wpList_stX _ rfl _ (.tmp 6) (.tmp 28) rfl w.heap.size _ _ rfl rfl b0 i14 rfl (by simp [Value.oneCell']) ?_ | refine wpList_stX _ rfl _ (.tmp 6) (.tmp 29) rfl w.heap.size _ _ rfl rfl b0 i14 rfl (by simp [Value.oneCell']) ?_ | refine wpList_stX _ rfl _ (.tmp 6) (.tmp 30) rfl w.heap.size _ _ rfl rfl b0 i14 rfl (by simp [Value.oneCell']) ?_ | refine wpList_stX _ rfl _ (.tmp 6) (.tmp 31) rfl w.heap.size _ _ rfl rfl b0 i14 rfl (by simp [Value.oneCell']) ?_ | refine wpList_stX _ rfl _ (.tmp 6) (.tmp 32) rfl w.heap.size _ _ rfl rfl b0 i14 rfl (by simp [Value.oneCell']) ?_ | refine wpList_stX _ rfl _ (.tmp 6) (.tmp 33) rfl w.heap.size _ _ rfl rfl b0 i14 rfl (by simp [Value.oneCell']) ?_); clear t2; intro w9 b9 g9))
    refine bodyPost_ret (results_cell1t rfl _ _ _ ⟨w.heap.size, 0, none⟩ _ (.int .i64 2) rfl (BxS.load (t := 48) b9 Try.underlying48 i14) rfl) rfl ?_
    exact ⟨rfl, grown_far g0 g9 (fun q e => by have e : w.heap.size = q := Option.some.inj e; omega)⟩
  go_enter Try.func26, Try.ntmps26
  go_wp2_with (first
    | (go_at_call 55; (with_reducible first | refine (h0 _).mono ?_ | refine (h1 _).mono ?_ | refine (h2 _).mono ?_); rintro e w1 ⟨rfl, rfl⟩)
    | (have _t := t2; (first | refine wpList_stX _ rfl _ (.tmp 6) (.tmp 9) rfl w.heap.size _ _ rfl rfl b0 i14 rfl (by simp [Value.oneCell']) ?_ | refine wpList_stX _ rfl _ (.tmp 6) (.tmp 10) rfl w.heap.size _ _ rfl rfl b0 i14 rfl (by simp [Value.oneCell']) ?_ | refine wpList_stX _ rfl _ (.tmp 6) (.tmp 11) rfl w.heap.size _ _ rfl rfl b0 i14 rfl (by simp [Value.oneCell']) ?_ | refine wpList_stX _ rfl _ (.tmp 6) (.tmp 12) rfl w.heap.size _ _ rfl rfl b0 i14 rfl (by simp [Value.oneCell']) ?_ | refine wpList_stX _ rfl _ (.tmp 6) (.tmp 13) rfl w.heap.size _ _ rfl rfl b0 i14 rfl (by simp [Value.oneCell']) ?_ | refine wpList_stX _ rfl _ (.tmp 6) (.tmp 14) rfl w.heap.size _ _ rfl rfl b0 i14 rfl (by simp [Value.oneCell']) ?_ | refine wpList_stX _ rfl _ (.tmp 6) (.tmp 15) rfl w.heap.size _ _ rfl rfl b0 i14 rfl (by simp [Value.oneCell']) ?_ | refine wpList_stX _ rfl _ (.tmp 6) (.tmp 16) rfl w.heap.size _ _ rfl rfl b0 i14 rfl (by simp [Value.oneCell']) ?_ | refine wpList_stX _ rfl _ (.tmp 6) (.tmp 17) rfl w.heap.size _ _ rfl rfl b0 i14 rfl (by simp [Value.oneCell']) ?_ | refine wpList_stX _ rfl _ (.tmp 6) (.tmp 18) rfl w.heap.size _ _ rfl rfl b0 i14 rfl (by simp [Value.oneCell']) ?_ | refine wpList_stX _ rfl _ (.tmp 6) (.tmp 19) rfl w.heap.size _ _ rfl rfl b0 i14 rfl (by simp [Value.oneCell']) ?_ | refine wpList_stX _ rfl _ (.tmp 6) (.tmp 20) rfl w.heap.size _ _ rfl rfl b0 i14 rfl (by simp [Value.oneCell']) ?_ | refine wpList_stX _ rfl _ (.tmp 6) (.tmp 21) rfl w.heap.size _ _ rfl rfl b0 i14 rfl (by simp [Value.oneCell']) ?_ | refine wpList_stX _ rfl _ (.tmp 6) (.tmp 22) rfl w.heap.size _ _ rfl rfl b0 i14 rfl (by simp [Value.oneCell']) ?_ | refine wpList_stX _ rfl _ (.tmp 6) (.tmp 23) rfl w.heap.size _ _ rfl rfl b0 i14 rfl (by simp [Value.oneCell']) ?_ | refine wpList_stX _ rfl _ (.tmp 6) (.tmp 24) rfl w.heap.size _ _ rfl rfl b0 i14 rfl (by simp [Value.oneCell']) ?_ | refine wpList_stX _ rfl _ (.tmp 6) (.tmp 25) rfl w.heap.size _ _ rfl rfl b0 i14 rfl (by simp [Value.oneCell']) ?_ | refine wpList_stX _ rfl _ (.tmp 6) (.tmp 26) rfl w.heap.size _ _ rfl rfl b0 i14 rfl (by simp [Value.oneCell']) ?_ | refine wpList_stX _ rfl _ (.tmp 6) (.tmp 27) rfl w.heap.size _ _ rfl rfl b0 i14 rfl (by simp [Value.oneCell']) ?_ | refine wpList_stX _ rfl _ (.tmp 6) (.tmp 28) rfl w.heap.size _ _ rfl rfl b0 i14 rfl (by simp [Value.oneCell']) ?_ | refine wpList_stX _ rfl _ (.tmp 6) (.tmp 29) rfl w.heap.size _ _ rfl rfl b0 i14 rfl (by simp [Value.oneCell']) ?_ | refine wpList_stX _ rfl _ (.tmp 6) (.tmp 30) rfl w.heap.size _ _ rfl rfl b0 i14 rfl (by simp [Value.oneCell']) ?_ | refine wpList_stX _ rfl _ (.tmp 6) (.tmp 31) rfl w.heap.size _ _ rfl rfl b0 i14 rfl (by simp [Value.oneCell']) ?_ | refine wpList_stX _ rfl _ (.tmp 6) (.tmp 32) rfl w.heap.size _ _ rfl rfl b0 i14 rfl (by simp [Value.oneCell']) ?_ | refine wpList_stX _ rfl _ (.tmp 6) (.tmp 33) rfl w.heap.size _ _ rfl rfl b0 i14 rfl (by simp [Value.oneCell']) ?_); clear t2; intro w9 b9 g9))
  refine bodyPost_ret (results_cell1t rfl _ _ _ ⟨w.heap.size, 0, none⟩ _ (.int .i64 0) rfl (BxS.load (t := 48) b9 Try.underlying48 i14) rfl) rfl ?_
  exact ⟨rfl, grown_far g0 g9 (fun q e => by have e : w.heap.size = q := Option.some.inj e; omega)⟩
end
end Go.Proofs.Ytnimehkfnpepfaa
