import Derived.ArgAppend
import Derived.Deep.DeepAppendWide
import Derived.Laws.AppendOwnNone
import Derived.OpenShut
import Derived.Test.YtlfacjpehhcdiaaOn0
import Derived.Test.YtlfacjpehhcdiaaOn1
import Derived.Test.YtlfacjpehhcdiaaProg
import Derived.Deep.RegionHeld3
import Derived.Test.YtlfacjpehhcdiaaOn4
import Derived.Test.YtlfacjpehhcdiaaOn3
import Derived.WalkKit
namespace Go.Proofs.Ytlfacjpehhcdiaa
open Go.RowKit
set_option maxRecDepth 100000
set_option linter.unusedVariables false
set_option linter.unusedSimpArgs false

section
/-- a slice as it is read -/
structure RdX (w : World) (a : Option Addr) (n cap : Nat) (X : List Value) : Prop where
  len : X.length = n
  le : n ≤ cap
  max : cap ≤ maxLen
  nil : a = none → cap = 0
  one : ∀ u, u ∈ X → u.oneCell' = true
  at' : 0 < n → ∃ b off, a = some ⟨b, off, none⟩ ∧ b < w.heap.size ∧ ∀ i u, X[i]? = some u → w.cell? ⟨b, off + i, none⟩ = some u
theorem RdX.grown {w w' : World} {a : Option Addr} {n cap : Nat} {X : List Value} {r : Option Nat} (h : RdX w a n cap X) (hg : w.grownBy w' r) (hne : ∀ b off, a = some ⟨b, off, none⟩ → some b ≠ r) : RdX w' a n cap X := by
  refine ⟨h.len, h.le, h.max, h.nil, h.one, fun h0 => ?_⟩
  obtain ⟨b, off, rfl, hb, hc⟩ := h.at' h0
  refine ⟨b, off, rfl, Nat.lt_of_lt_of_le hb hg.size, fun i u hu => ?_⟩
  exact (World.cell?_of_block (w := w) (hg.block b hb (hne b off rfl))).trans (hc i u hu)
theorem RdX.keep {w w' : World} {a : Option Addr} {n cap : Nat} {X : List Value} (h : RdX w a n cap X) (hg : w.grownBy w' none) : RdX w' a n cap X := h.grown hg (fun _ _ _ => by simp)
/-- a row of the call's own, in memory from block lo on -/
structure AnsX (e : TypeId) (w : World) (lo : Nat) (a : Option Addr) (n cap : Nat) (X : List Value) : Prop where
  own : w.ownsRow 0 e 1 (.slice a n cap) n X
  one : ∀ u, u ∈ X → u.oneCell' = true
  new : ∀ g, (Value.slice a n cap).ownBlock = some g → lo ≤ g
theorem AnsX.len {e : TypeId} {w : World} {lo : Nat} {a : Option Addr} {n cap : Nat} {X : List Value} (h : AnsX e w lo a n cap X) : X.length = n := by
  have := h.own.1; omega
theorem AnsX.cases {e : TypeId} {w : World} {lo : Nat} {a : Option Addr} {n cap : Nat} {X : List Value} (h : AnsX e w lo a n cap X) :
    (a = none ∧ n = 0 ∧ cap = 0) ∨ ∃ g, a = some ⟨g, 0, none⟩ ∧ lo ≤ g ∧ g < w.heap.size := by
  rcases h.own.2 with ⟨h1, h2⟩ | ⟨g, cap', cur, h1, _, h3, _⟩
  · simp only [Value.slice.injEq] at h1; exact .inl h1
  · simp only [Value.slice.injEq] at h1
    obtain ⟨rfl, _, _⟩ := h1
    exact .inr ⟨g, rfl, h.new g rfl, (Array.getElem?_eq_some_iff.1 h3).1⟩
theorem AnsX.ty {e : TypeId} {w : World} {lo : Nat} {g n cap : Nat} {X : List Value} (h : AnsX e w lo (some ⟨g, 0, none⟩) n cap X) : ∃ cs fr, w.heap[g]? = some (.cells cs e fr) := by
  rcases h.own.2 with ⟨h1, h2⟩ | ⟨g', cap', cur, h1, _, h3, _⟩
  · simp at h1
  · simp only [Value.slice.injEq, Option.some.injEq, Addr.mk.injEq] at h1
    obtain ⟨⟨rfl, _⟩, _⟩ := h1
    exact ⟨_, _, h3⟩
theorem AnsX.max {e : TypeId} {w : World} {lo : Nat} {a : Option Addr} {n cap : Nat} {X : List Value} (h : AnsX e w lo a n cap X) : n ≤ cap ∧ cap ≤ maxLen := by
  rcases h.own.2 with ⟨h1, h2⟩ | ⟨g, cap', cur, h1, _, h3, h4, h5, _⟩
  · simp only [Value.slice.injEq] at h1; obtain ⟨_, h6, h7⟩ := h1; subst h6; subst h7; exact ⟨Nat.le_refl _, Nat.zero_le _⟩
  · simp only [Value.slice.injEq] at h1; obtain ⟨_, _, h7⟩ := h1; subst h7; exact ⟨h4, h5⟩
theorem AnsX.rd {e : TypeId} {w : World} {lo : Nat} {a : Option Addr} {n cap : Nat} {X : List Value} (h : AnsX e w lo a n cap X) : RdX w a n cap X := by
  refine ⟨h.len, h.max.1, h.max.2, fun h0 => ?_, h.one, fun h0 => ?_⟩
  · rcases h.cases with ⟨_, _, h3⟩ | ⟨g, h1, _⟩
    · exact h3
    · rw [h0] at h1; cases h1
  · rcases h.cases with ⟨_, h2, _⟩ | ⟨g, rfl, _, hl⟩
    · omega
    · refine ⟨g, 0, rfl, hl, fun i u hu => ?_⟩
      have := h.own.cells (g := g) rfl i u hu
      rw [addr_add] at this
      exact this
theorem AnsX.kept {e : TypeId} {w w' : World} {lo : Nat} {a : Option Addr} {n cap : Nat} {X : List Value} {r : Option Nat} (h : AnsX e w lo a n cap X) (hg : w.grownBy w' r) (hne : (Value.slice a n cap).ownBlock = none ∨ (Value.slice a n cap).ownBlock ≠ r) : AnsX e w' lo a n cap X :=
  ⟨h.own.kept hg hne, h.one, h.new⟩
theorem AnsX.keep {e : TypeId} {w w' : World} {lo : Nat} {a : Option Addr} {n cap : Nat} {X : List Value} (h : AnsX e w lo a n cap X) (hg : w.grownBy w' none) : AnsX e w' lo a n cap X :=
  h.kept hg (by cases (Value.slice a n cap).ownBlock <;> simp)
theorem AnsX.lt {e : TypeId} {w : World} {lo : Nat} {a : Option Addr} {n cap : Nat} {X : List Value} (h : AnsX e w lo a n cap X) : ∀ g, (Value.slice a n cap).ownBlock = some g → g < w.heap.size := by
  intro g hg
  rcases h.cases with ⟨rfl, _, _⟩ | ⟨g', rfl, _, hl⟩
  · simp [Value.ownBlock] at hg
  · have : g' = g := by simpa [Value.ownBlock] using hg
    omega
theorem AnsX.up {e : TypeId} {w : World} {lo : Nat} {a : Option Addr} {n cap : Nat} {X : List Value} (h : AnsX e w lo a n cap X) : w.ownsRow lo e 1 (.slice a n cap) n X := by
  refine ⟨h.own.1, ?_⟩
  rcases h.own.2 with h1 | ⟨g, c1, cur, h1, h2, h3⟩
  · exact .inl h1
  · refine .inr ⟨g, c1, cur, h1, ?_, h3⟩
    simp only [Value.slice.injEq] at h1
    obtain ⟨rfl, _, _⟩ := h1
    exact h.new g rfl
theorem AnsX.cell {e : TypeId} {w : World} {lo g n cap : Nat} {X : List Value} (h : AnsX e w lo (some ⟨g, 0, none⟩) n cap X) (i : Nat) (u : Value) (hu : X[i]? = some u) : w.cell? ⟨g, i, none⟩ = some u := by
  have := h.own.cells (g := g) rfl i u hu
  rw [addr_add, Nat.zero_add] at this
  exact this
theorem AnsX.free {e : TypeId} {w : World} {lo g n cap : Nat} {X : List Value} (h : AnsX e w lo (some ⟨g, 0, none⟩) n cap X) (i : Nat) : w.frozen? ⟨g, i, none⟩ = false := h.own.frozenAt i
theorem AnsX.set {e : TypeId} {w : World} {lo g n cap : Nat} {X : List Value} (h : AnsX e w lo (some ⟨g, 0, none⟩) n cap X) (i : Nat) (u : Value) (h1 : u.oneCell' = true) : AnsX e (w.setCell ⟨g, i, none⟩ u) lo (some ⟨g, 0, none⟩) n cap (X.set i u) := by
  refine ⟨(h.own.stored i u).1, fun v hv => ?_, h.new⟩
  rcases List.mem_or_eq_of_mem_set hv with h2 | h2
  · exact h.one v h2
  · rw [h2]; exact h1
end

section
section
variable {P : Program} {ops : Array Oper} {Q : Exit → Act → World → Prop} {md : Region.Mode} {S : World → Prop}
/-- whatever order is picked from here on, and S holds behind every operation but those of Z, the last ones -/
def wpAnyZ (P : Program) (md : Region.Mode) (ops : Array Oper) (Q : Exit → Act → World → Prop) (S : World → Prop) (Z : List Nat) : Nat → Array Bool → Act → World → Prop
  | 0, listed, a, w => Region.ready md ops listed = [] ∧ Q .normal a w
  | fuel + 1, listed, a, w =>
    (Region.ready md ops listed = [] → Q .normal a w) ∧
    ∀ i ∈ Region.ready md ops listed, wpOp P ops Q i (fun a' w' => (i ∉ Z → S w') ∧ wpAnyZ P md ops Q S Z fuel (listed.setIfInBounds i true) a' w') a w
theorem wpAny_of_Z (Z : List Nat) : ∀ (fuel : Nat) (listed : Array Bool) (a : Act) (w : World), wpAnyZ P md ops Q S Z fuel listed a w → wpAny P md ops Q fuel listed a w
  | 0, _, _, _, h => h
  | fuel + 1, _, _, _, h => ⟨h.1, fun i hi => wpOp_mono (fun a' w' h' => wpAny_of_Z Z fuel _ a' w' h'.2) (h.2 i hi)⟩
/-- those of C have not come up, and none of them can ahead of i -/
def waitZ (md : Region.Mode) (ops : Array Oper) (listed : Array Bool) (i : Nat) (C : List Nat) : Bool :=
  C.all fun c => !(listed.getD c true) && match ops[c]? with | some oc => oc.after.any (fun e => Region.binds md e && (e.on == i || C.contains e.on)) | none => false
theorem waitZ_no {listed : Array Bool} {i : Nat} {C : List Nat} (h : waitZ md ops listed i C = true) (hi : i ∈ Region.ready md ops listed) {j : Nat} (hj : j ∈ Region.ready md ops listed) : j ∉ C := by
  intro hc
  have h1 := List.all_eq_true.1 h j hc
  obtain ⟨hjun, oj, hoj, hall⟩ := mem_ready.1 hj
  simp only [hoj, Bool.and_eq_true, Bool.not_eq_true'] at h1
  obtain ⟨e, he, hb⟩ := Array.any_eq_true'.1 h1.2
  simp only [Bool.and_eq_true, Bool.or_eq_true, beq_iff_eq, List.contains_iff_mem] at hb
  have hd := hall e he hb.1
  have hun : listed.getD e.on true = false := by
    rcases hb.2 with h2 | h2
    · rw [h2]; exact (mem_ready.1 hi).1
    · have := List.all_eq_true.1 h e.on h2
      simp only [Bool.and_eq_true, Bool.not_eq_true'] at this
      exact this.1
  rcases Nat.lt_or_ge e.on listed.size with h' | h'
  · simp [h'] at hun hd; rw [hun] at hd; cases hd
  · simp [Array.getElem?_eq_none h'] at hun
theorem waitZ_step {listed : Array Bool} {i : Nat} {C : List Nat} (h : waitZ md ops listed i C = true) {j : Nat} (hj : j ∉ C) : waitZ md ops (listed.setIfInBounds j true) i C = true := by
  unfold waitZ at *
  rw [List.all_eq_true] at *
  intro c hc
  have h1 := h c hc
  have : j ≠ c := fun e => hj (e ▸ hc)
  rw [getD_set_ne true this]
  exact h1
theorem wpAnyZ_first {Z C : List Nat} (hz : ∀ z, z ∈ Z → z ∈ C) {i : Nat} {oi : Oper} {v : Value} (hi : ops[i]? = some oi) (hsel : ∀ (j : Nat) (o : Oper) cs b, ops[j]? = some o → o.op ≠ .select cs b)
    (hQ : ∀ c a w, Q (.panic c) (a.put oi.dst v) w → Q (.panic c) a w) :
    ∀ (fuel : Nat) (listed : Array Bool) (a : Act) (w : World),
      (∀ j oj, ops[j]? = some oj → j ≠ i → listed.getD j true = false → (∀ e ∈ oj.after, Region.binds md e = true → e.on ≠ i) → oi.apart ops oj = true) →
      i ∈ Region.ready md ops listed → waitZ md ops listed i C = true → YieldsIf P ops S oi v a → S w →
      wpAnyZ P md ops Q S Z fuel (listed.setIfInBounds i true) (a.put oi.dst v) w → wpAnyZ P md ops Q S Z (fuel + 1) listed a w := by
  intro fuel
  induction fuel with
  | zero =>
    intro listed a w _ hr hW hy hS H
    refine ⟨fun h => (by rw [h] at hr; cases hr), fun j hj => ?_⟩
    by_cases hji : j = i
    · subst hji; exact hy.wpOp hi hS ⟨fun _ => hS, H⟩
    · have := ready_mono hj hji
      rw [H.1] at this
      cases this
  | succ fuel ih =>
    intro listed a w hfree hr hW hy hS H
    refine ⟨fun h => (by rw [h] at hr; cases hr), fun j hj => ?_⟩
    by_cases hji : j = i
    · subst hji; exact hy.wpOp hi hS ⟨fun _ => hS, H⟩
    · have hjC := waitZ_no hW hr hj
      have hjz : j ∉ Z := fun e => hjC (hz j e)
      have h1 := H.2 j (ready_mono hj hji)
      obtain ⟨hjun, oj, hoj, hall⟩ := mem_ready.1 hj
      have hnot : ∀ e ∈ oj.after, Region.binds md e = true → e.on ≠ i := fun e he hb heq => by
        have h1 := hall e he hb
        have h0 := (mem_ready.1 hr).1
        rw [heq] at h1
        rcases Nat.lt_or_ge i listed.size with h' | h'
        · simp [h'] at h0 h1; rw [h0] at h1; cases h1
        · simp [Array.getElem?_eq_none h'] at h1
      have h2 := wpOp_putIf hoj (hfree j oj hoj hji hjun hnot) (fun cs b => hsel i oi cs b hi) (fun cs b => hsel j oj cs b hoj) hQ hy h1
      have hfree' : ∀ k ok, ops[k]? = some ok → k ≠ i → (listed.setIfInBounds j true).getD k true = false →
          (∀ e ∈ ok.after, Region.binds md e = true → e.on ≠ i) → oi.apart ops ok = true := fun k ok hk hki hun hno => by
        refine hfree k ok hk hki ?_ hno
        by_cases hjk : j = k
        · subst hjk; exact hjun
        · rw [getD_set_ne true hjk] at hun; exact hun
      refine wpOp_mono (fun a' w' h3 => ⟨h3.2.1, ih (listed.setIfInBounds j true) a' w' hfree' (ready_mono hr (Ne.symm hji)) (waitZ_step hW hjC) h3.1 (h3.2.1 hjz) ?_⟩) h2
      rw [Array.setIfInBounds_comm _ _ hji]
      exact h3.2.2
/-- take number i first -/
theorem wpAnyZ_take {Z : List Nat} (C : List Nat) (i : Nat) {oi : Oper} (v : Value) {fuel : Nat} {listed : Array Bool} {a : Act} {w : World} (hi : ops[i]? = some oi)
    (hs : ((Z.all fun z => C.contains z) && Region.noSelect ops && Region.free md ops listed i && (Region.ready md ops listed).contains i && waitZ md ops listed i C) = true)
    (hQ : ∀ c a w, Q (.panic c) (a.put oi.dst v) w → Q (.panic c) a w) (hS : S w) (hw : Region.wanted oi (yielded ops a.tmps) = true) (hy : ∀ w, S w → (execOp a.eval oi).run P w = .ok (.value v) w)
    (h : wpAnyZ P md ops Q S Z fuel (listed.setIfInBounds i true) (a.put oi.dst v) w) : wpAnyZ P md ops Q S Z (fuel + 1) listed a w := by
  simp only [Bool.and_eq_true, List.contains_iff_mem, List.all_eq_true] at hs
  exact wpAnyZ_first hs.1.1.1.1 hi (Region.noSelect_spec hs.1.1.1.2) hQ fuel listed a w (Region.free_spec hi hs.1.1.2) hs.1.2 hs.2 (.inl ⟨hw, hy⟩) hS h
/-- one alone may come up -/
theorem wpAnyZ_one {Z : List Nat} (i : Nat) {o : Oper} {fuel : Nat} {listed : Array Bool} {a : Act} {w : World} (ho : ops[i]? = some o) (hr : Region.ready md ops listed = [i])
    (h : ∀ K' : Act → World → Prop, (∀ a w, (i ∉ Z → S w) → wpAnyZ P md ops Q S Z fuel (listed.setIfInBounds i true) a w → K' a w) → if Region.wanted o (yielded ops a.tmps) = true then Oper.wp P o a w K' Q else K' (a.put o.dst undef) w) :
    wpAnyZ P md ops Q S Z (fuel + 1) listed a w := by
  refine ⟨fun h0 => (by rw [hr] at h0; cases h0), fun j hj => ?_⟩
  rw [hr] at hj
  have e := List.mem_singleton.1 hj
  subst e
  exact wpOp_step ho (fun K' hK => h K' (fun a w hS hW => hK a w ⟨hS, hW⟩))
theorem wpAnyZ_done {Z : List Nat} {listed : Array Bool} {a : Act} {w : World} (hr : Region.ready md ops listed = []) (h : Q .normal a w) : ∀ fuel, wpAnyZ P md ops Q S Z fuel listed a w
  | 0 => ⟨hr, h⟩
  | _ + 1 => ⟨fun _ => h, by rw [hr]; simp⟩
theorem wp_regionZ {id : Nat} {a : Act} {w : World} (S : World → Prop) (Z : List Nat) (hm : P.follows .mixedOrders = true)
    (h : wpAnyZ P .any ops Q S Z ops.size (Array.replicate ops.size false) a w.drew) : (Code.region id ops true).wp P Q a w :=
  wp_region_any hm (wpAny_of_Z Z _ _ _ _ h)
end

section
variable {P : Program} {ops : Array Oper} {Q : Exit → Act → World → Prop} {md : Region.Mode} {S : World → Prop}
end
theorem wp_regionL {P : Program} {ops : Array Oper} {Q : Exit → Act → World → Prop} {id : Nat} {a : Act} {w : World} (S : World → Prop) (Z : List Nat) (L0 : Array Bool) (hL : Array.replicate ops.size false = L0) (hm : P.follows .mixedOrders = true)
    (h : wpAnyZ P .any ops Q S Z ops.size L0 a w.drew) : (Code.region id ops true).wp P Q a w := by
  subst hL
  exact wp_regionZ S Z hm h
theorem wpAnyZ_oneB {P : Program} {ops : Array Oper} {Q : Exit → Act → World → Prop} {md : Region.Mode} {S : World → Prop} {Z : List Nat} (i : Nat) {o : Oper} {fuel : Nat} {listed : Array Bool} {a : Act} {w : World} (ho : ops[i]? = some o) (hr : (Region.ready md ops listed == [i]) = true)
    (h : ∀ K' : Act → World → Prop, (∀ a w, (i ∉ Z → S w) → wpAnyZ P md ops Q S Z fuel (listed.setIfInBounds i true) a w → K' a w) → if Region.wanted o (yielded ops a.tmps) = true then Oper.wp P o a w K' Q else K' (a.put o.dst undef) w) :
    wpAnyZ P md ops Q S Z (fuel + 1) listed a w := wpAnyZ_one i ho (eq_of_beq hr) h
theorem wpAnyZ_doneB {P : Program} {ops : Array Oper} {Q : Exit → Act → World → Prop} {md : Region.Mode} {S : World → Prop} {Z : List Nat} {listed : Array Bool} {a : Act} {w : World} (hr : (Region.ready md ops listed == []) = true) (h : Q .normal a w) (fuel : Nat) : wpAnyZ P md ops Q S Z fuel listed a w := wpAnyZ_done (eq_of_beq hr) h fuel
end

section
/-- a whole value is stored into a box, in a region that draws -/
theorem step_stX (w : World) {ops : Array Oper} {o : Oper} {a : Act} {K : Act → World → Prop} {Q : Exit → Act → World → Prop} {E : Prop} (hg : o.guard = none) (t : TypeId) (p v : Operand) (hop : o.op = Op.store t p v)
    (g : Nat) (cs ds : Array Value) (hp : a.eval p = .pointer (some ⟨g, 0, none⟩)) (hv : a.eval v = .agg ds) (h : BxS w g t cs) (hi : (Try.prog.info? t).map (·.size) = some ds.size) (ho : cs.size = ds.size) (h1 : ds.all (·.oneCell') = true)
    (hK : ∀ w', BxS w' g t ds → w.grownBy w' (some g) → K (a.put o.dst undef) w') :
    if Region.wanted o (yielded ops a.tmps) = true then Oper.wp Try.prog o a w K Q else E := by
  have hw : Region.wanted o (yielded ops a.tmps) = true := by simp [Region.wanted, hg]
  rw [if_pos hw]
  have hst : (Instr.storeAt t (.pointer (some ⟨g, 0, none⟩)) (.agg ds)).run Try.prog w = .ok () (w.setRow g ds) := by
    simp only [Instr.storeAt, Instr.sureAddr, Sem.run_bind, Sem.run_pure, Result.andThen]
    exact run_storeVar_row w g t t cs ds h hi ho h1
  have hfin := hK _ (h.row ds) ⟨rfl, rfl, rfl, by simp, fun k _ hk => setRow_other w g k _ (fun e => hk (by rw [e]))⟩
  unfold Oper.wp
  simp [execOp, hop, hp, hv, hst, Result.andThen, Oper.upon]
  exact hfin
end

section
theorem BxS.cell13 {w : World} {g : Nat} {t : TypeId} {a0 a1 a2 a3 a4 a5 a6 a7 a8 a9 aa ab ac : Value} (k : BxS w g t #[a0, a1, a2, a3, a4, a5, a6, a7, a8, a9, aa, ab, ac]) : w.cell? ⟨g, 0, none⟩ = some a0 ∧ w.cell? ⟨g, 1, none⟩ = some a1 ∧ w.cell? ⟨g, 2, none⟩ = some a2 ∧ w.cell? ⟨g, 3, none⟩ = some a3 ∧ w.cell? ⟨g, 4, none⟩ = some a4 ∧ w.cell? ⟨g, 5, none⟩ = some a5 ∧ w.cell? ⟨g, 6, none⟩ = some a6 ∧ w.cell? ⟨g, 7, none⟩ = some a7 ∧ w.cell? ⟨g, 8, none⟩ = some a8 ∧ w.cell? ⟨g, 9, none⟩ = some a9 ∧ w.cell? ⟨g, 10, none⟩ = some aa ∧ w.cell? ⟨g, 11, none⟩ = some ab ∧ w.cell? ⟨g, 12, none⟩ = some ac := by
  simp [World.cell?, show w.heap[g]? = _ from k]
/-- rows that are not written lie as they lay -/
theorem Ans.fz {w w' : World} {p : Nat → Prop} {lo n c : Nat} {a : Option Addr} {L : List Nat} (h : Ans w lo a n c L) (hF : Fz p w w') (hn : ∀ x, (Value.slice a n c).ownBlock = some x → ¬ p x) : Ans w' lo a n c L := by
  refine ⟨⟨h.own.1, ?_⟩, h.byte, h.new⟩
  rcases h.own.2 with h1 | ⟨g, cap, cur, h1, h2, hh, h3⟩
  · exact .inl h1
  · exact .inr ⟨g, cap, cur, h1, h2, (hF.block g (Array.getElem?_eq_some_iff.1 hh).1 (hn g (by rw [h1]; rfl))).trans hh, h3⟩
theorem OwR.fz {w w' : World} {p : Nat → Prop} {lo n c : Nat} {a : Option Addr} {rs : List Rw} (h : OwR w lo a n c rs) (hF : Fz p w w') (hn : ∀ x, Ofr (.slice a n c) rs x → ¬ p x) : OwR w' lo a n c rs := by
  refine ⟨⟨h.own.1, ?_⟩, h.len, h.new, fun r hr => (h.each r hr).fz hF (fun x e => hn x (.inr ⟨r, hr, e⟩)), h.apart⟩
  rcases h.own.2 with h1 | ⟨g, cap, cur, h1, h2, hh, h3⟩
  · exact .inl h1
  · exact .inr ⟨g, cap, cur, h1, h2, (hF.block g (Array.getElem?_eq_some_iff.1 hh).1 (hn g (.inl (by rw [h1]; rfl)))).trans hh, h3⟩
theorem OwR.box {w : World} {lo n c g : Nat} {a : Option Addr} {rs : List Rw} {t : TypeId} {cs : Array Value} (h : OwR w lo a n c rs) (b : BxS w g t cs) (ht : 29 ≠ t) : (Value.slice a n c).ownBlock ≠ some g := by
  intro e
  rcases h.own.2 with ⟨h1, _⟩ | ⟨x, cap, cur, h1, _, hh, _⟩
  · rw [h1] at e; simp [Value.ownBlock] at e
  · rw [h1] at e
    have e1 : x = g := Option.some.inj e
    subst e1
    have e2 : some (Obj.cells cur 29) = some (.cells cs t) := hh.symm.trans b
    injection e2 with e3
    injection e3 with _ e4
    exact ht e4
theorem Ans.box {w : World} {lo n c g : Nat} {a : Option Addr} {L : List Nat} {t : TypeId} {cs : Array Value} (h : Ans w lo a n c L) (b : BxS w g t cs) (ht : 5 ≠ t) : (Value.slice a n c).ownBlock ≠ some g := by
  intro e
  rcases h.own.2 with ⟨h1, _⟩ | ⟨x, cap, cur, h1, _, hh, _⟩
  · rw [h1] at e; simp [Value.ownBlock] at e
  · rw [h1] at e
    have e1 : x = g := Option.some.inj e
    subst e1
    have e2 : some (Obj.cells cur 5) = some (.cells cs t) := hh.symm.trans b
    injection e2 with e3
    injection e3 with _ e4
    exact ht e4
theorem stc_err (g i : Nat) (n : Int) (w : World) (hc : ∃ u, w.cell? ⟨g, i, none⟩ = some u) (hf : w.frozen? ⟨g, i, none⟩ = false) : (Instr.storeAt 24 (.pointer (some ⟨g, i, none⟩)) (.int .i64 n)).run Try.prog w = .ok () (w.setCell ⟨g, i, none⟩ (.int .i64 n)) := by
  obtain ⟨u, hc⟩ := hc
  simp [go_sem, hc, hf]
theorem ofr_lo {w : World} {lo : Nat} {a : Option Addr} {n c : Nat} {rs : List Rw} (h : OwR w lo a n c rs) {x : Nat} (hx : Ofr (.slice a n c) rs x) : lo ≤ x := by
  rcases hx with h1 | ⟨r, hr, h1⟩
  · exact h.new x h1
  · exact (h.each r hr).new x h1
theorem ofr_hi {hi : Nat} {v : Value} {rs : List Rw} (h : Bef hi v rs) {x : Nat} (hx : Ofr v rs x) : x < hi := by
  rcases hx with h1 | ⟨r, hr, h1⟩
  · exact h.1 x h1
  · exact h.2 r hr x h1
theorem BxS.fz {w w' : World} {p : Nat → Prop} {g : Nat} {t : TypeId} {cs : Array Value} (h : BxS w g t cs) (hF : Fz p w w') (hn : ¬ p g) : BxS w' g t cs := (hF.block g h.lt hn).trans h
theorem ofr_box {w : World} {lo : Nat} {a : Option Addr} {n c g : Nat} {rs : List Rw} {t : TypeId} {cs : Array Value} (h : OwR w lo a n c rs) (b : BxS w g t cs) (h1 : 29 ≠ t) (h2 : 5 ≠ t) {x : Nat} (hx : Ofr (.slice a n c) rs x) : ¬ x = g := by
  intro e
  subst e
  rcases hx with h3 | ⟨r, hr, h3⟩
  · exact h.box b h1 h3
  · exact (h.each r hr).box b h2 h3
set_option maxHeartbeats 8000000 in
theorem apart_bad (cv : Value) (cr nx ah : Int) (sa : Option Addr) (sn sc : Nat) (F : Nat → Rw) (qa : Option Addr) (qn qc : Nat) (K : Nat → Rw) (ti pa tr li si pu hl : Int) (w : World) (hS : RdR w sa sn sc F) (hQ : RdR w qa qn qc K) (hM : hnB cr nx ah sn F qn K ti pa tr li si pu hl = false) :
    Calls Try.prog 16 #[.agg (hnA cr nx ah (.slice sa sn sc) (.slice qa qn qc) ti pa tr li si pu hl), cv] w fun e w' => e = .returned (.tuple #[.agg #[.int .i64 0, .int .i64 0, .int .i64 0, .slice none 0 0, .slice none 0 0, .int .i64 0, .int .i64 0, .int .i64 0, .int .i64 0, .int .i64 0, .int .i64 0, .int .i64 0], .slice none 0 0, .int .i64 11]) ∧ w.grownBy w' none := by
  have h0 := fun wz h1 h2 => hmay_any cr nx ah sa sn sc F qa qn qc K ti pa tr li si pu hl wz h1 h2
  rw [hM] at h0
  unfold hnA at h0 ⊢
  have b0 := BxS.new w 26 #[.int .i64 cr, .int .i64 nx, .int .i64 ah, .slice sa sn sc, .slice qa qn qc, .int .i64 ti, .int .i64 pa, .int .i64 tr, .int .i64 li, .int .i64 si, .int .i64 pu, .int .i64 hl]
  have g0 := World.grownBy_alloc w (.cells #[.int .i64 cr, .int .i64 nx, .int .i64 ah, .slice sa sn sc, .slice qa qn qc, .int .i64 ti, .int .i64 pa, .int .i64 tr, .int .i64 li, .int .i64 si, .int .i64 pu, .int .i64 hl] 26) none
  generalize hw0 : w.alloc (.cells #[.int .i64 cr, .int .i64 nx, .int .i64 ah, .slice sa sn sc, .slice qa qn qc, .int .i64 ti, .int .i64 pa, .int .i64 tr, .int .i64 li, .int .i64 si, .int .i64 pu, .int .i64 hl] 26) = w0 at b0 g0
  have z0 := BxS.new w0 26 #[.int .i64 0, .int .i64 0, .int .i64 0, .slice none 0 0, .slice none 0 0, .int .i64 0, .int .i64 0, .int .i64 0, .int .i64 0, .int .i64 0, .int .i64 0, .int .i64 0]
  have g1 := World.grownBy_alloc w0 (.cells #[.int .i64 0, .int .i64 0, .int .i64 0, .slice none 0 0, .slice none 0 0, .int .i64 0, .int .i64 0, .int .i64 0, .int .i64 0, .int .i64 0, .int .i64 0, .int .i64 0] 26) none
  generalize hw1 : w0.alloc (.cells #[.int .i64 0, .int .i64 0, .int .i64 0, .slice none 0 0, .slice none 0 0, .int .i64 0, .int .i64 0, .int .i64 0, .int .i64 0, .int .i64 0, .int .i64 0, .int .i64 0] 26) = w1 at z0 g1
  have B1 := b0.keep g1 (by simp)
  obtain ⟨c0, c1, c2, c3, c4, c5, c6, c7, c8, c9, c10, c11⟩ := B1.cell12
  have G1 := grown_trans g0 g1
  have i12 := Try.info_hn
  have t1 : True := trivial
  go_enter Try.func16, Try.ntmps16
  go_wp2_with (first
    | (go_at_call 14; have _t := t1; clear t1; refine (h0 w1 (hS.keep G1) (hQ.keep G1)).mono ?_; rintro e w2 ⟨rfl, g2⟩; have z2 := z0.keep g2 (by simp); have t2 : True := trivial)
    | (have _t := t2; refine wpList_stX _ rfl _ (.tmp 4) (.tmp 12) rfl w0.heap.size _ _ rfl rfl z2 i12 rfl (by simp [Value.oneCell']) ?_; clear t2; intro w9 b9 g9))
  refine bodyPost_ret (results_cell3 rfl _ _ _ ⟨w0.heap.size, 0, none⟩ _ (.slice none 0 0) (.int .i64 11) rfl (BxS.load (t := 26) b9 Try.underlying26 Try.info_hn) rfl rfl) rfl ?_
  exact ⟨rfl, grown_far (grown_trans G1 g2) g9 (fun q e => by cases e; exact g0.size)⟩
end

section
/-- a hand, as data -/
structure Hd where
  cr : Int
  nx : Int
  ah : Int
  ti : Int
  pa : Int
  tr : Int
  li : Int
  si : Int
  pu : Int
  hl : Int
  S : List (List Nat)
  Q : List (List Nat)
/-- where its rows lie -/
structure Hx where
  sa : Option Addr
  sn : Nat
  sc : Nat
  qa : Option Addr
  qn : Nat
  qc : Nat
/-- rows of bytes as they are read, as data -/
structure RdW (w : World) (a : Option Addr) (n c : Nat) (R : List (List Nat)) : Prop where
  len : R.length = n
  ex : ∃ F, RdR w a n c F ∧ ∀ i, i < n → (F i).D = R.getD i []
structure RdHd (w : World) (X : Hx) (d : Hd) : Prop where
  s : RdW w X.sa X.sn X.sc d.S
  q : RdW w X.qa X.qn X.qc d.Q
/-- rows in memory of the call's own, as data -/
structure OwW (w : World) (lo : Nat) (a : Option Addr) (n c : Nat) (rs : List Rw) (R : List (List Nat)) : Prop where
  o : OwR w lo a n c rs
  d : rs.map Rw.D = R
structure OwHd (w : World) (lo : Nat) (X : Hx) (rs qs : List Rw) (d : Hd) : Prop where
  s : OwW w lo X.sa X.sn X.sc rs d.S
  q : OwW w lo X.qa X.qn X.qc qs d.Q
  ap : ∀ x, Ofr (.slice X.sa X.sn X.sc) rs x → ¬ Ofr (.slice X.qa X.qn X.qc) qs x
/-- the blocks of a hand -/
def Hbl (X : Hx) (rs qs : List Rw) (i : Nat) : Prop := Ofr (.slice X.sa X.sn X.sc) rs i ∨ Ofr (.slice X.qa X.qn X.qc) qs i
theorem RdW.keep {w w' : World} {a : Option Addr} {n c : Nat} {R : List (List Nat)} (h : RdW w a n c R) (hg : w.grownBy w' none) : RdW w' a n c R := by
  obtain ⟨F, h1, h2⟩ := h.ex
  exact ⟨h.len, F, h1.keep hg, h2⟩
theorem RdHd.keep {w w' : World} {X : Hx} {d : Hd} (h : RdHd w X d) (hg : w.grownBy w' none) : RdHd w' X d := ⟨h.s.keep hg, h.q.keep hg⟩
theorem OwW.keep {w w' : World} {lo : Nat} {a : Option Addr} {n c : Nat} {rs : List Rw} {R : List (List Nat)} (h : OwW w lo a n c rs R) (hg : w.grownBy w' none) : OwW w' lo a n c rs R := ⟨h.o.keep hg, h.d⟩
theorem OwW.wide {w : World} {lo lo' : Nat} {a : Option Addr} {n c : Nat} {rs : List Rw} {R : List (List Nat)} (h : OwW w lo a n c rs R) (hl : lo' ≤ lo) : OwW w lo' a n c rs R := ⟨h.o.wide hl, h.d⟩
theorem OwHd.keep {w w' : World} {lo : Nat} {X : Hx} {rs qs : List Rw} {d : Hd} (h : OwHd w lo X rs qs d) (hg : w.grownBy w' none) : OwHd w' lo X rs qs d := ⟨h.s.keep hg, h.q.keep hg, h.ap⟩
theorem OwW.fz {w w' : World} {p : Nat → Prop} {lo : Nat} {a : Option Addr} {n c : Nat} {rs : List Rw} {R : List (List Nat)} (h : OwW w lo a n c rs R) (hF : Fz p w w') (hn : ∀ x, Ofr (.slice a n c) rs x → ¬ p x) : OwW w' lo a n c rs R := ⟨h.o.fz hF hn, h.d⟩
theorem OwHd.fz {w w' : World} {p : Nat → Prop} {lo : Nat} {X : Hx} {rs qs : List Rw} {d : Hd} (h : OwHd w lo X rs qs d) (hF : Fz p w w') (hn : ∀ x, Hbl X rs qs x → ¬ p x) : OwHd w' lo X rs qs d :=
  ⟨h.s.fz hF (fun x hx => hn x (.inl hx)), h.q.fz hF (fun x hx => hn x (.inr hx)), h.ap⟩
theorem getD_map_D (rs : List Rw) (i : Nat) (hi : i < rs.length) : (rs.map Rw.D).getD i [] = (rs.getD i kr0).D := by
  rw [List.getD_eq_getElem?_getD, List.getElem?_map, List.getElem?_eq_getElem hi, List.getD_eq_getElem?_getD, List.getElem?_eq_getElem hi]; rfl
theorem map_D_of (rs : List Rw) (R : List (List Nat)) (hl : rs.length = R.length) (h : ∀ i, i < R.length → (rs.getD i kr0).D = R.getD i []) : rs.map Rw.D = R := by
  apply List.ext_getElem (by simpa using hl)
  intro i h1 h2
  have := h i h2
  rw [← getD_map_D rs i (by rw [hl]; exact h2)] at this
  rw [List.getD_eq_getElem?_getD, List.getElem?_eq_getElem h1, List.getD_eq_getElem?_getD, List.getElem?_eq_getElem h2] at this
  exact this
theorem OwW.len {w : World} {lo : Nat} {a : Option Addr} {n c : Nat} {rs : List Rw} {R : List (List Nat)} (h : OwW w lo a n c rs R) : R.length = n := by
  rw [← h.d, List.length_map]; exact h.o.len
theorem OwW.rd {w : World} {lo : Nat} {a : Option Addr} {n c : Nat} {rs : List Rw} {R : List (List Nat)} (h : OwW w lo a n c rs R) : RdW w a n c R := by
  refine ⟨h.len, _, h.o.rdr, fun i hi => ?_⟩
  rw [← h.d, getD_map_D rs i (by rw [h.o.len]; exact hi)]
theorem OwHd.rd {w : World} {lo : Nat} {X : Hx} {rs qs : List Rw} {d : Hd} (h : OwHd w lo X rs qs d) : RdHd w X d := ⟨h.s.rd, h.q.rd⟩
theorem OwW.hi {w : World} {lo : Nat} {a : Option Addr} {n c : Nat} {rs : List Rw} {R : List (List Nat)} (h : OwW w lo a n c rs R) (x : Nat) (hx : Ofr (.slice a n c) rs x) : x < w.heap.size := ofr_hi h.o.bef hx
theorem OwW.lo' {w : World} {lo : Nat} {a : Option Addr} {n c : Nat} {rs : List Rw} {R : List (List Nat)} (h : OwW w lo a n c rs R) (x : Nat) (hx : Ofr (.slice a n c) rs x) : lo ≤ x := ofr_lo h.o hx
theorem OwHd.hi {w : World} {lo : Nat} {X : Hx} {rs qs : List Rw} {d : Hd} (h : OwHd w lo X rs qs d) (x : Nat) (hx : Hbl X rs qs x) : x < w.heap.size := by
  rcases hx with hx | hx
  · exact h.s.hi x hx
  · exact h.q.hi x hx
theorem OwHd.lo' {w : World} {lo : Nat} {X : Hx} {rs qs : List Rw} {d : Hd} (h : OwHd w lo X rs qs d) (x : Nat) (hx : Hbl X rs qs x) : lo ≤ x := by
  rcases hx with hx | hx
  · exact h.s.lo' x hx
  · exact h.q.lo' x hx
theorem RdW.nil (w : World) : RdW w none 0 0 [] := ⟨rfl, fun _ => kr0, ⟨Nat.le_refl _, Nat.zero_le _, (fun h => absurd h (by decide)), fun i hi => absurd hi (by omega)⟩, fun i hi => absurd hi (by omega)⟩
theorem OwW.nil (w : World) (lo : Nat) : OwW w lo none 0 0 [] [] := ⟨OwR.nil w lo, rfl⟩
theorem ofr_nil (x : Nat) : ¬ Ofr (.slice none 0 0) [] x := by
  rintro (h | ⟨r, h, _⟩)
  · simp [Value.ownBlock] at h
  · cases h
/-- each row of the data is not too long -/
def Fit (b : Nat) (R : List (List Nat)) : Prop := ∀ r, r ∈ R → r.length ≤ b
theorem Fit.at' {b : Nat} {R : List (List Nat)} (h : Fit b R) (i : Nat) (hi : i < R.length) : (R.getD i []).length ≤ b := by
  rw [List.getD_eq_getElem?_getD, List.getElem?_eq_getElem hi]
  exact h _ (List.getElem_mem _)
end

section
def rwD (R : List (List Nat)) (i : Nat) : Rw := ⟨none, (R.getD i []).length, 0, R.getD i []⟩
/-- may a hand be? -/
def hndB (d : Hd) : Bool := hnB d.cr d.nx d.ah d.S.length (rwD d.S) d.Q.length (rwD d.Q) d.ti d.pa d.tr d.li d.si d.pu d.hl
theorem alC_congr {F G : Nat → Rw} {n : Nat} (h : ∀ i, i < n → (F i).n = (G i).n) : alC F n = alC G n := by
  induction n with
  | zero => rfl
  | succ n ih => simp only [alC]; rw [ih (fun i hi => h i (by omega)), h n (by omega)]
theorem hnd_of {w : World} {X : Hx} {d : Hd} {F K : Nat → Rw} (hF : RdR w X.sa X.sn X.sc F) (hF2 : ∀ i, i < X.sn → (F i).D = d.S.getD i []) (hK : RdR w X.qa X.qn X.qc K) (hK2 : ∀ i, i < X.qn → (K i).D = d.Q.getD i []) (l1 : d.S.length = X.sn) (l2 : d.Q.length = X.qn) :
    hnB d.cr d.nx d.ah X.sn F X.qn K d.ti d.pa d.tr d.li d.si d.pu d.hl = hndB d := by
  unfold hndB hnB cmB
  rw [l1, l2]
  have e1 : alC F X.sn = alC (rwD d.S) X.sn := alC_congr (fun i hi => by show _ = (d.S.getD i []).length; rw [← hF2 i hi]; exact (hF.data i hi).len.symm)
  have e2 : alC K X.qn = alC (rwD d.Q) X.qn := alC_congr (fun i hi => by show _ = (d.Q.getD i []).length; rw [← hK2 i hi]; exact (hK.data i hi).len.symm)
  rw [e1, e2]
theorem hnd_ok {d : Hd} (h : hndB d = true) : (0 ≤ d.cr ∧ d.cr ≤ 1023) ∧ d.S.length ≤ 127 ∧ d.Q.length ≤ 100 ∧ Fit 1017 d.S ∧ Fit 1017 d.Q ∧ (∀ i, i < d.S.length → 1 ≤ (d.S.getD i []).length ∧ (d.S.getD i []).length ≤ 1017) ∧ (∀ i, i < d.Q.length → 1 ≤ (d.Q.getD i []).length ∧ (d.Q.getD i []).length ≤ 1017) := by
  unfold hndB hnB cmB at h
  simp only [Bool.and_eq_true, decide_eq_true_eq] at h
  obtain ⟨⟨⟨⟨⟨⟨⟨⟨⟨⟨⟨h1, h2⟩, h3⟩, h4⟩, h5⟩, h6⟩, h7, h7'⟩, h8, h8'⟩, h9⟩, h10⟩, h11⟩, h12⟩ := h
  have a1 := kwB_ok h1
  have a2 := kwB_ok h2
  have b1 : ∀ i, i < d.S.length → 1 ≤ (d.S.getD i []).length ∧ (d.S.getD i []).length ≤ 1017 := fun i hi => alC_ok h7' i hi
  have b2 : ∀ i, i < d.Q.length → 1 ≤ (d.Q.getD i []).length ∧ (d.Q.getD i []).length ≤ 1017 := fun i hi => alC_ok h8' i hi
  refine ⟨a1, by omega, by omega, fun r hr => ?_, fun r hr => ?_, b1, b2⟩
  · obtain ⟨i, hi, rfl⟩ := List.mem_iff_getElem.1 hr
    have := (b1 i hi).2
    rw [List.getD_eq_getElem?_getD, List.getElem?_eq_getElem hi] at this
    exact this
  · obtain ⟨i, hi, rfl⟩ := List.mem_iff_getElem.1 hr
    have := (b2 i hi).2
    rw [List.getD_eq_getElem?_getD, List.getElem?_eq_getElem hi] at this
    exact this
def hd0 : Hd := ⟨0, 0, 0, 0, 0, 0, 0, 0, 0, 0, [], []⟩
def hx0 : Hx := ⟨none, 0, 0, none, 0, 0⟩
theorem owHd_nil (w : World) (lo : Nat) : OwHd w lo hx0 [] [] hd0 := ⟨OwW.nil _ _, OwW.nil _ _, fun x h => absurd h (ofr_nil x)⟩
end

section
/-- the number of the first region of a piece of code (0: none; n + 1: region n) -/
def fstR : Code → Nat
  | .region id _ _ => id + 1
  | .seq a _ => fstR a
  | .block _ b => fstR b
  | .loop b => fstR b
  | _ => 0
/-- the piece of code that begins with region n, as long as can be -/
def tailR (n : Nat) : Code → Code
  | .seq a b => if fstR a = n + 1 then .seq a b else match tailR n a with
    | .skip => tailR n b
    | c => c
  | .cond _ t e => match tailR n t with
    | .skip => tailR n e
    | c => c
  | .block _ b => tailR n b
  | .loop b => tailR n b
  | .region id o d => if id = n then .region id o d else .skip
  | _ => .skip
end
end Go.Proofs.Ytlfacjpehhcdiaa
