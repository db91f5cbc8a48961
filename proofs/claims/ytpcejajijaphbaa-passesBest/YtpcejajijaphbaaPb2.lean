import Derived.Deep.RegionHeld3
import Derived.Test.YtpcejajijaphbaaPb1
import Derived.Test.YtpcejajijaphbaaProg
import Derived.WalkKit
import Derived.Deep.MidRow
import Derived.Test.YtpcejajijaphbaaPb0
namespace Go.Proofs.Ytpcejajijaphbaa
open Go.RowKit
set_option maxRecDepth 100000
set_option linter.unusedVariables false
set_option linter.unusedSimpArgs false

section
section
variable {P : Program} {ops : Array Oper} {Q : Exit → Act → World → Prop} {md : Region.Mode} {S : World → Prop}
/-- whatever order is picked from here on, and S holds behind every operation but those of Z, the last ones -/
def wpAnyY (P : Program) (md : Region.Mode) (ops : Array Oper) (Q : Exit → Act → World → Prop) (S : World → Prop) (Z : List Nat) : Nat → Array Bool → Act → World → Prop
  | 0, listed, a, w => Region.ready md ops listed = [] ∧ Q .normal a w
  | fuel + 1, listed, a, w =>
    (Region.ready md ops listed = [] → Q .normal a w) ∧
    ∀ i ∈ Region.ready md ops listed, wpOp P ops Q i (fun a' w' => (S w → i ∉ Z → S w') ∧ wpAnyY P md ops Q S Z fuel (listed.setIfInBounds i true) a' w') a w
theorem wpAny_of_Y (Z : List Nat) : ∀ (fuel : Nat) (listed : Array Bool) (a : Act) (w : World), wpAnyY P md ops Q S Z fuel listed a w → wpAny P md ops Q fuel listed a w
  | 0, _, _, _, h => h
  | fuel + 1, _, _, _, h => ⟨h.1, fun i hi => wpOp_mono (fun a' w' h' => wpAny_of_Y Z fuel _ a' w' h'.2) (h.2 i hi)⟩
theorem wpAnyY_first {Z C : List Nat} (hz : ∀ z, z ∈ Z → z ∈ C) {i : Nat} {oi : Oper} {v : Value} (hi : ops[i]? = some oi) (hsel : ∀ (j : Nat) (o : Oper) cs b, ops[j]? = some o → o.op ≠ .select cs b)
    (hQ : ∀ c a w, Q (.panic c) (a.put oi.dst v) w → Q (.panic c) a w) :
    ∀ (fuel : Nat) (listed : Array Bool) (a : Act) (w : World),
      (∀ j oj, ops[j]? = some oj → j ≠ i → listed.getD j true = false → (∀ e ∈ oj.after, Region.binds md e = true → e.on ≠ i) → oi.apart ops oj = true) →
      i ∈ Region.ready md ops listed → waitZ md ops listed i C = true → YieldsIf P ops S oi v a → S w →
      wpAnyY P md ops Q S Z fuel (listed.setIfInBounds i true) (a.put oi.dst v) w → wpAnyY P md ops Q S Z (fuel + 1) listed a w := by
  intro fuel
  induction fuel with
  | zero =>
    intro listed a w _ hr hW hy hS H
    refine ⟨fun h => (by rw [h] at hr; cases hr), fun j hj => ?_⟩
    by_cases hji : j = i
    · subst hji; exact hy.wpOp hi hS ⟨fun h _ => h, H⟩
    · have := ready_mono hj hji
      rw [H.1] at this
      cases this
  | succ fuel ih =>
    intro listed a w hfree hr hW hy hS H
    refine ⟨fun h => (by rw [h] at hr; cases hr), fun j hj => ?_⟩
    by_cases hji : j = i
    · subst hji; exact hy.wpOp hi hS ⟨fun h _ => h, H⟩
    · have hjC := waitZ_no hW hr hj
      have hjz : j ∉ Z := fun e => hjC (hz j e)
      have h1 := H.2 j (ready_mono hj hji)
      obtain ⟨hjun, oj, hoj, hall⟩ := mem_ready.1 hj
      have hnot : ∀ e ∈ oj.after, Region.binds md e = true → e.on ≠ i := fun e he hb heq => by
        have h1 := hall e he hb
        have h0 := (mem_ready.1 hr).1
        rw [heq] at h1
        rcases Nat.lt_or_ge i listed.size with h' | h'
        · simp [h'] at h0 h1; rw [h0] at h1; cases h1
        · simp [Array.getElem?_eq_none h'] at h1
      have h2 := wpOp_putIf hoj (hfree j oj hoj hji hjun hnot) (fun cs b => hsel i oi cs b hi) (fun cs b => hsel j oj cs b hoj) hQ hy h1
      have hfree' : ∀ k ok, ops[k]? = some ok → k ≠ i → (listed.setIfInBounds j true).getD k true = false →
          (∀ e ∈ ok.after, Region.binds md e = true → e.on ≠ i) → oi.apart ops ok = true := fun k ok hk hki hun hno => by
        refine hfree k ok hk hki ?_ hno
        by_cases hjk : j = k
        · subst hjk; exact hjun
        · rw [getD_set_ne true hjk] at hun; exact hun
      refine wpOp_mono (fun a' w' h3 => ⟨h3.2.1, ih (listed.setIfInBounds j true) a' w' hfree' (ready_mono hr (Ne.symm hji)) (waitZ_step hW hjC) h3.1 (h3.2.1 hS hjz) ?_⟩) h2
      rw [Array.setIfInBounds_comm _ _ hji]
      exact h3.2.2
/-- take number i first -/
theorem wpAnyY_take {Z : List Nat} (C : List Nat) (i : Nat) {oi : Oper} (v : Value) {fuel : Nat} {listed : Array Bool} {a : Act} {w : World} (hi : ops[i]? = some oi)
    (hs : ((Z.all fun z => C.contains z) && Region.noSelect ops && Region.free md ops listed i && (Region.ready md ops listed).contains i && waitZ md ops listed i C) = true)
    (hQ : ∀ c a w, Q (.panic c) (a.put oi.dst v) w → Q (.panic c) a w) (hS : S w) (hw : Region.wanted oi (yielded ops a.tmps) = true) (hy : ∀ w, S w → (execOp a.eval oi).run P w = .ok (.value v) w)
    (h : wpAnyY P md ops Q S Z fuel (listed.setIfInBounds i true) (a.put oi.dst v) w) : wpAnyY P md ops Q S Z (fuel + 1) listed a w := by
  simp only [Bool.and_eq_true, List.contains_iff_mem, List.all_eq_true] at hs
  exact wpAnyY_first hs.1.1.1.1 hi (Region.noSelect_spec hs.1.1.1.2) hQ fuel listed a w (Region.free_spec hi hs.1.1.2) hs.1.2 hs.2 (.inl ⟨hw, hy⟩) hS h
/-- one alone may come up -/
theorem wpAnyY_one {Z : List Nat} (i : Nat) {o : Oper} {fuel : Nat} {listed : Array Bool} {a : Act} {w : World} (ho : ops[i]? = some o) (hr : Region.ready md ops listed = [i])
    (h : ∀ K' : Act → World → Prop, (∀ a' w', (S w → i ∉ Z → S w') → wpAnyY P md ops Q S Z fuel (listed.setIfInBounds i true) a' w' → K' a' w') → if Region.wanted o (yielded ops a.tmps) = true then Oper.wp P o a w K' Q else K' (a.put o.dst undef) w) :
    wpAnyY P md ops Q S Z (fuel + 1) listed a w := by
  refine ⟨fun h0 => (by rw [hr] at h0; cases h0), fun j hj => ?_⟩
  rw [hr] at hj
  have e := List.mem_singleton.1 hj
  subst e
  exact wpOp_step ho (fun K' hK => h K' (fun a w hS hW => hK a w ⟨hS, hW⟩))
theorem wpAnyY_done {Z : List Nat} {listed : Array Bool} {a : Act} {w : World} (hr : Region.ready md ops listed = []) (h : Q .normal a w) : ∀ fuel, wpAnyY P md ops Q S Z fuel listed a w
  | 0 => ⟨hr, h⟩
  | _ + 1 => ⟨fun _ => h, by rw [hr]; simp⟩
theorem wp_regionY {id : Nat} {a : Act} {w : World} (S : World → Prop) (Z : List Nat) (hm : P.follows .mixedOrders = true)
    (h : wpAnyY P .any ops Q S Z ops.size (Array.replicate ops.size false) a w.drew) : (Code.region id ops true).wp P Q a w :=
  wp_region_any hm (wpAny_of_Y Z _ _ _ _ h)
end

section
variable {P : Program} {ops : Array Oper} {Q : Exit → Act → World → Prop} {md : Region.Mode} {S : World → Prop}
/-- what yields in whatever world may be taken first, whatever of Z comes up ahead of it -/
theorem wpAnyY_firstF {Z : List Nat} {i : Nat} {oi : Oper} {v : Value} (hi : ops[i]? = some oi) (hsel : ∀ (j : Nat) (o : Oper) cs b, ops[j]? = some o → o.op ≠ .select cs b)
    (hQ : ∀ c a w, Q (.panic c) (a.put oi.dst v) w → Q (.panic c) a w) :
    ∀ (fuel : Nat) (listed : Array Bool) (a : Act) (w : World),
      (∀ j oj, ops[j]? = some oj → j ≠ i → listed.getD j true = false → (∀ e ∈ oj.after, Region.binds md e = true → e.on ≠ i) → oi.apart ops oj = true) →
      i ∈ Region.ready md ops listed → YieldsIf P ops (fun _ => True) oi v a →
      wpAnyY P md ops Q S Z fuel (listed.setIfInBounds i true) (a.put oi.dst v) w → wpAnyY P md ops Q S Z (fuel + 1) listed a w := by
  intro fuel
  induction fuel with
  | zero =>
    intro listed a w _ hr hy H
    refine ⟨fun h => (by rw [h] at hr; cases hr), fun j hj => ?_⟩
    by_cases hji : j = i
    · subst hji; exact hy.wpOp hi trivial ⟨fun h _ => h, H⟩
    · have := ready_mono hj hji
      rw [H.1] at this
      cases this
  | succ fuel ih =>
    intro listed a w hfree hr hy H
    refine ⟨fun h => (by rw [h] at hr; cases hr), fun j hj => ?_⟩
    by_cases hji : j = i
    · subst hji; exact hy.wpOp hi trivial ⟨fun h _ => h, H⟩
    · have h1 := H.2 j (ready_mono hj hji)
      obtain ⟨hjun, oj, hoj, hall⟩ := mem_ready.1 hj
      have hnot : ∀ e ∈ oj.after, Region.binds md e = true → e.on ≠ i := fun e he hb heq => by
        have h1 := hall e he hb
        have h0 := (mem_ready.1 hr).1
        rw [heq] at h1
        rcases Nat.lt_or_ge i listed.size with h' | h'
        · simp [h'] at h0 h1; rw [h0] at h1; cases h1
        · simp [Array.getElem?_eq_none h'] at h1
      have h2 := wpOp_putIf hoj (hfree j oj hoj hji hjun hnot) (fun cs b => hsel i oi cs b hi) (fun cs b => hsel j oj cs b hoj) hQ hy h1
      have hfree' : ∀ k ok, ops[k]? = some ok → k ≠ i → (listed.setIfInBounds j true).getD k true = false →
          (∀ e ∈ ok.after, Region.binds md e = true → e.on ≠ i) → oi.apart ops ok = true := fun k ok hk hki hun hno => by
        refine hfree k ok hk hki ?_ hno
        by_cases hjk : j = k
        · subst hjk; exact hjun
        · rw [getD_set_ne true hjk] at hun; exact hun
      refine wpOp_mono (fun a' w' h3 => ⟨h3.2.1, ih (listed.setIfInBounds j true) a' w' hfree' (ready_mono hr (Ne.symm hji)) h3.1 ?_⟩) h2
      rw [Array.setIfInBounds_comm _ _ hji]
      exact h3.2.2
theorem wpAnyY_takeF {Z : List Nat} (i : Nat) {oi : Oper} (v : Value) {fuel : Nat} {listed : Array Bool} {a : Act} {w : World} (hi : ops[i]? = some oi)
    (hs : (Region.noSelect ops && Region.free md ops listed i && (Region.ready md ops listed).contains i) = true)
    (hQ : ∀ c a w, Q (.panic c) (a.put oi.dst v) w → Q (.panic c) a w) (hw : Region.wanted oi (yielded ops a.tmps) = true) (hy : ∀ w, (execOp a.eval oi).run P w = .ok (.value v) w)
    (h : wpAnyY P md ops Q S Z fuel (listed.setIfInBounds i true) (a.put oi.dst v) w) : wpAnyY P md ops Q S Z (fuel + 1) listed a w := by
  simp only [Bool.and_eq_true, List.contains_iff_mem] at hs
  exact wpAnyY_firstF hi (Region.noSelect_spec hs.1.1) hQ fuel listed a w (Region.free_spec hi hs.1.2) hs.2 (.inl ⟨hw, fun w _ => hy w⟩) h
end
theorem wp_regionM {P : Program} {ops : Array Oper} {Q : Exit → Act → World → Prop} {id : Nat} {a : Act} {w : World} (S : World → Prop) (Z : List Nat) (L0 : Array Bool) (hL : Array.replicate ops.size false = L0) (hm : P.follows .mixedOrders = true)
    (h : wpAnyY P .any ops Q S Z ops.size L0 a w.drew) : (Code.region id ops true).wp P Q a w := by
  subst hL
  exact wp_regionY S Z hm h
theorem wpAnyY_oneB {P : Program} {ops : Array Oper} {Q : Exit → Act → World → Prop} {md : Region.Mode} {S : World → Prop} {Z : List Nat} (i : Nat) {o : Oper} {fuel : Nat} {listed : Array Bool} {a : Act} {w : World} (ho : ops[i]? = some o) (hr : (Region.ready md ops listed == [i]) = true)
    (h : ∀ K' : Act → World → Prop, (∀ a' w', (S w → i ∉ Z → S w') → wpAnyY P md ops Q S Z fuel (listed.setIfInBounds i true) a' w' → K' a' w') → if Region.wanted o (yielded ops a.tmps) = true then Oper.wp P o a w K' Q else K' (a.put o.dst undef) w) :
    wpAnyY P md ops Q S Z (fuel + 1) listed a w := wpAnyY_one i ho (eq_of_beq hr) h
theorem wpAnyY_doneB {P : Program} {ops : Array Oper} {Q : Exit → Act → World → Prop} {md : Region.Mode} {S : World → Prop} {Z : List Nat} {listed : Array Bool} {a : Act} {w : World} (hr : (Region.ready md ops listed == []) = true) (h : Q .normal a w) (fuel : Nat) : wpAnyY P md ops Q S Z fuel listed a w := wpAnyY_done (eq_of_beq hr) h fuel
/-- two may come up -/
theorem wpAnyY_twoB {P : Program} {ops : Array Oper} {Q : Exit → Act → World → Prop} {md : Region.Mode} {S : World → Prop} {Z : List Nat} (i j : Nat) {o o' : Oper} {fuel : Nat} {listed : Array Bool} {a : Act} {w : World} (ho : ops[i]? = some o) (ho' : ops[j]? = some o') (hr : (Region.ready md ops listed == [i, j]) = true)
    (h : ∀ K' : Act → World → Prop, (∀ a' w', (S w → i ∉ Z → S w') → wpAnyY P md ops Q S Z fuel (listed.setIfInBounds i true) a' w' → K' a' w') → if Region.wanted o (yielded ops a.tmps) = true then Oper.wp P o a w K' Q else K' (a.put o.dst undef) w)
    (h' : ∀ K' : Act → World → Prop, (∀ a' w', (S w → j ∉ Z → S w') → wpAnyY P md ops Q S Z fuel (listed.setIfInBounds j true) a' w' → K' a' w') → if Region.wanted o' (yielded ops a.tmps) = true then Oper.wp P o' a w K' Q else K' (a.put o'.dst undef) w) :
    wpAnyY P md ops Q S Z (fuel + 1) listed a w := by
  have hr := eq_of_beq hr
  refine ⟨fun h0 => (by rw [hr] at h0; cases h0), fun k hk => ?_⟩
  rw [hr] at hk
  rcases List.mem_cons.1 hk with e | hk
  · subst e
    exact wpOp_step ho (fun K' hK => h K' (fun a w hS hW => hK a w ⟨hS, hW⟩))
  · have e := List.mem_singleton.1 hk
    subst e
    exact wpOp_step ho' (fun K' hK => h' K' (fun a w hS hW => hK a w ⟨hS, hW⟩))
end

section
/-- the number of the first region of a piece of code (0: none; n + 1: region n) -/
def fstR : Code → Nat
  | .region id _ _ => id + 1
  | .seq a _ => fstR a
  | .block _ b => fstR b
  | .loop b => fstR b
  | _ => 0
/-- the piece of code that begins with region n, as long as can be -/
def tailR (n : Nat) : Code → Code
  | .seq a b => if fstR a = n + 1 then .seq a b else match tailR n a with
    | .skip => tailR n b
    | c => c
  | .cond _ t e => match tailR n t with
    | .skip => tailR n e
    | c => c
  | .block _ b => tailR n b
  | .loop b => tailR n b
  | .region id o d => if id = n then .region id o d else .skip
  | _ => .skip
end

section
theorem rdX_one (w : World) (e : TypeId) (v : Value) (h1 : v.oneCell' = true) : RdX (w.alloc (.cells #[v] e)) (some ⟨w.heap.size, 0, none⟩) 1 1 [v] := by
  refine ⟨rfl, Nat.le_refl _, by decide, (fun h => by cases h), ?_, fun _ => ⟨w.heap.size, 0, rfl, by simp, fun i u hu => ?_⟩⟩
  · intro u hu
    have e : u = v := by simpa using hu
    rw [e]; exact h1
  · rw [cell_of_row _ _ _ _ _ _ (heap_alloc_new w _), Nat.zero_add]
    simpa using hu
/-- 'append(v, u)', v of the call's own -/
theorem wpList_psX {t e : TypeId} {z : Value} {by' : Nat} (E : ElT t e z by') (w : World) (u : Value) (h1 : u.oneCell' = true) {ops : Array Oper} {rest : List Oper} {o : Oper} {a : Act} {Q : Exit → Act → World → Prop} (hg : o.guard = none) (s x : Operand)
    (hop : o.op = Op.call { callee := .builtin .append, args := #[s, x], argTypes := #[t, t] }) (ao : Option Addr) (m co lo : Nat) (D : List Value) (hs : a.eval s = .slice ao m co)
    (hA : AnsX e w lo ao m co D) (hlo : lo ≤ w.heap.size) (hx : a.eval x = .slice (some ⟨w.heap.size, 0, none⟩) 1 1) (hb : m + 1 ≤ 8000000000000)
    (hK : ∀ gx cx w', AnsX e w' lo (some ⟨gx, 0, none⟩) (m + 1) cx (D ++ [u]) → w.grownBy w' (Value.slice ao m co).ownBlock → ((Value.slice ao m co).ownBlock = some gx ∨ w.heap.size ≤ gx) → wpList Try.prog ops Q rest (a.put o.dst (.slice (some ⟨gx, 0, none⟩) (m + 1) cx)) w') :
    wpList Try.prog ops Q (o :: rest) a (w.alloc (.cells #[u] e)) := by
  obtain ⟨i0, hi, hz0, hz1, hz2⟩ := info_parts E.inf
  have gA := World.grownBy_alloc w (.cells #[u] e) none
  have hR := rdX_one w e u h1
  have hpos := E.pos
  have hle : (m + 1) * by' ≤ (m + 1) * 16 := Nat.mul_le_mul_left _ hpos
  refine wpList_apS _ hg s x t e i0 z 1 by' E.und hi hz0 hz1 hz2 E.one (by decide) hop (.slice ao m co) m D hs (hA.own.alloc _) ⟨w.heap.size, 0, none⟩ 1 1 [u] hx rfl ?_ hR.one (by decide) (by unfold maxLen; omega) (by omega) ?_
  · intro j v hv
    obtain ⟨b, off, e', _, hc⟩ := hR.at' (by decide)
    cases e'
    rw [addr_add]
    exact hc j v hv
  · intro g c w' hgx hgr hown
    have hsz := gA.size
    refine hK g c w' ⟨hown, ?_, fun y hy => ?_⟩ (grown_trans (grown_weak gA _) hgr) ?_
    · intro v hv
      rcases List.mem_append.1 hv with h | h
      · exact hA.one v h
      · exact hR.one v h
    · have e' : g = y := Option.some.inj hy
      subst e'
      rcases hgx with h | h
      · exact hA.new g h
      · omega
    · rcases hgx with h | h
      · exact .inl h
      · exact .inr (by omega)
theorem run_mkX {t e : TypeId} {z : Value} {by' : Nat} (E : ElT t e z by') (hz : z.oneCell' = true) (hc : z.cells = #[z]) (n : Nat) (hn : n ≤ 1000) (w : World) :
    ∃ w', (Instr.makeSlice t (.int .i64 (n : Int)) (.int .i64 (n : Int))).run Try.prog w = .ok (.slice (some ⟨w.heap.size, 0, none⟩) n n) w' ∧ AnsX e w' w.heap.size (some ⟨w.heap.size, 0, none⟩) n n (List.replicate n z) ∧ w.grownBy w' none := by
  obtain ⟨i0, hi, hz0, hz1, hz2⟩ := info_parts E.inf
  have hpos := E.pos
  have hle : i0.bytes * n ≤ 16 * n := Nat.mul_le_mul_right _ (by omega)
  obtain ⟨w', hrun, r1, r2⟩ := run_make_full (P := Try.prog) w w.heap.size t e i0 z 1 E.und hi hz0 hz1 .i64 .i64 n (by omega) (by unfold maxLen; omega) (Nat.le_refl _)
  refine ⟨w', hrun, ⟨?_, ?_, fun g h => by have e : w.heap.size = g := Option.some.inj h; omega⟩, r2⟩
  · rw [Nat.mul_one, hc, toList_madeCells_one] at r1
    exact own_baseX r1
  · intro u hu
    rw [List.eq_of_mem_replicate hu]; exact hz
/-- a pass -/
structure Pa where
  st : Int
  fr : Int
  to' : Int
  wo : Int
def Pa.cells (p : Pa) : List Value := [.int .i64 p.st, .int .i64 p.fr, .int .i64 p.to', .int .i64 p.wo]
def Pa.arr (p : Pa) : Array Value := #[.int .i64 p.st, .int .i64 p.fr, .int .i64 p.to', .int .i64 p.wo]
structure Pa.ok (p : Pa) : Prop where
  st : 0 ≤ p.st ∧ p.st ≤ 31
  fr : 0 ≤ p.fr ∧ p.fr ≤ 1000000
  to' : p.fr + 1 ≤ p.to' ∧ p.to' ≤ 1000000
  wo : 0 ≤ p.wo ∧ p.wo ≤ 1000000
theorem Try.info_pa : (Try.prog.info? 29).map (fun i => i.size) = some 4 := by kernel_rfl
theorem Try.elP : ElT 52 45 (.pointer none) 8 := ⟨Try.underlying52, by kernel_rfl, rfl, by decide⟩
theorem Try.elN : ElT 23 3 (.int .i64 0) 8 := ⟨Try.underlying23, by kernel_rfl, rfl, by decide⟩
/-- passes as they are read -/
structure RdPa (w : World) (a : Option Addr) (n cap : Nat) (F : Nat → Pa) : Prop where
  le : n ≤ cap
  max : cap ≤ maxLen
  at' : 0 < n → ∃ b off, a = some ⟨b, off, none⟩ ∧ b < w.heap.size ∧ ∀ i, i < n → w.rangeAt b (off + i * 4) (F i).cells
theorem range_keep {w w' : World} {b o : Nat} {cs : List Value} (h : w.rangeAt b o cs) (hb : b < w.heap.size) (hg : w.grownBy w' none) : w'.rangeAt b o cs := by
  intro j v hv
  have := h j v hv
  unfold World.cell? at this ⊢
  rw [hg.block b hb (by simp)]
  exact this
theorem RdPa.keep {w w' : World} {a : Option Addr} {n cap : Nat} {F : Nat → Pa} (h : RdPa w a n cap F) (hg : w.grownBy w' none) : RdPa w' a n cap F :=
  ⟨h.le, h.max, fun h0 => by
    obtain ⟨b, off, e, hb, hc⟩ := h.at' h0
    exact ⟨b, off, e, Nat.lt_of_lt_of_le hb hg.size, fun i hi => range_keep (hc i hi) hb hg⟩⟩
section
variable {w : World}
theorem BxS.rangeR {g : Nat} {t : TypeId} {A : Array Value} (h : BxS w g t A) (o : Nat) (cs : List Value) (hc : (A.toList.drop o).take cs.length = cs) : w.rangeAt g o cs := by
  intro j v hv
  rw [cell_of_row _ _ _ _ _ _ h]
  have hj : j < cs.length := (List.getElem?_eq_some_iff.1 hv).1
  rw [← hc, List.getElem?_take, if_pos hj, List.getElem?_drop] at hv
  rw [← hv]
  simp
theorem ldMR {o : Oper} {a : Act} {t : TypeId} {p : Operand} {g off : Nat} {cs : List Value} {d : TypeDesc} (hop : o.op = Op.load t p) (hp : a.eval p = .pointer (some ⟨g, off, none⟩)) (hr : w.rangeAt g off cs) (hu : Try.prog.underlying t = some d) (hd : d.isRow = true) (hi : (Try.prog.info? t).map (·.size) = some cs.length) : (execOp a.eval o).run Try.prog w = .ok (.value (.agg cs.toArray)) w := by
  simp [execOp, hop, hp, run_loadAt_mid w g off t cs d hr hu hd hi, Result.andThen]
theorem step_of_listR {ops : Array Oper} {o : Oper} {a : Act} {K : Act → World → Prop} {Q : Exit → Act → World → Prop} {E : Prop} (hg : o.guard = none) (h : wpList Try.prog ops (Exit.then K (fun _ _ _ => False)) [o] a w) :
    if Region.wanted o (yielded ops a.tmps) = true then Oper.wp Try.prog o a w K Q else E := by
  have hw : Region.wanted o (yielded ops a.tmps) = true := by simp [Region.wanted, hg]
  rw [if_pos hw]
  unfold wpList at h
  rw [if_pos hw] at h
  rcases h with h | ⟨_, a', w', h⟩
  · unfold Oper.wp at *
    generalize (execOp a.eval o).run Try.prog w = r at *
    cases r with
    | ok n w' =>
      cases n <;> simp only [Oper.upon] at h ⊢ <;>
        first
          | exact h
          | exact Calls.mono h (fun e w'' he => by
              cases e with
              | returned v => exact he
              | panicked c => exact he.elim
              | outgrown => obtain ⟨a', w', he⟩ := he; exact he.elim)
          | exact Rows.mono h (fun _ _ he => he)
    | halt x w' =>
      cases x <;> simp only [Oper.upon] at h ⊢ <;> first | exact h | exact h.elim
  · exact h.elim
end
/-- cmp.Compare -/
def cN (x y : Int) : Int := if x < y then -1 else if y < x then 1 else 0
theorem isNaN_any (x : Int) (w : World) : Calls Try.prog 30 #[.int .i64 x] w fun e w' => e = .returned (.bool false) ∧ w' = w := by
  go_enter Try.func30, Try.ntmps30
  go_wp2
  go_ret
  exact ⟨rfl, rfl⟩
theorem compare_any (x y : Int) (w : World) : Calls Try.prog 27 #[.int .i64 x, .int .i64 y] w fun e w' => e = .returned (.int .i64 (cN x y)) ∧ w' = w := by
  have H := fun z wz => isNaN_any z wz
  unfold cN
  by_cases h1 : x < y
  · rw [if_pos h1]
    go_enter Try.func27, Try.ntmps27
    go_wp2_with (go_at_call 30; refine (H _ _).mono ?_; rintro e wx ⟨rfl, hwx⟩; rw [hwx]; clear hwx)
    go_ret
    exact ⟨rfl, rfl⟩
  · rw [if_neg h1]
    by_cases h2 : y < x
    · rw [if_pos h2]
      go_enter Try.func27, Try.ntmps27
      go_wp2_with (go_at_call 30; refine (H _ _).mono ?_; rintro e wx ⟨rfl, hwx⟩; rw [hwx]; clear hwx)
      go_ret
      exact ⟨rfl, rfl⟩
    · rw [if_neg h2]
      go_enter Try.func27, Try.ntmps27
      go_wp2_with (go_at_call 30; refine (H _ _).mono ?_; rintro e wx ⟨rfl, hwx⟩; rw [hwx]; clear hwx)
      go_ret
      exact ⟨rfl, rfl⟩
def orN (X : Nat → Int) : Int := if X 0 ≠ 0 then X 0 else if X 1 ≠ 0 then X 1 else X 2
set_option maxHeartbeats 4000000 in
theorem or_any (g : Nat) (X : Nat → Int) (w : World) (hc : ∀ j, j < 3 → w.cell? ⟨g, j, none⟩ = some (.int .i64 (X j))) : Calls Try.prog 26 #[.slice (some ⟨g, 0, none⟩) 3 3] w fun e w' => e = .returned (.int .i64 (orN X)) ∧ w' = w := by
  have HC : Hid _ := hc
  clear hc
  go_enter Try.func26, Try.ntmps26
  go_wp2
  go_loopw [8, 5] (fun v8 v5 wr => ∃ i : Nat, i ≤ 3 ∧ v8 = .int .i64 i ∧ Hid (wr = w) ∧ Hid (∀ j, j < i → X j = 0)) (fun v8 v5 _ => 3 - (intOf v8).toNat)
  case atStart => exact ⟨0, by decide, rfl, (rfl : _ = _), fun j hj => absurd hj (by omega)⟩
  case round =>
    obtain ⟨i, hi, rfl, hw, HZ⟩ := hrel
    have hw := hw.out
    subst hw
    by_cases hlt : i < 3
    · have lj : (i : Int) < 3 := by omega
      have ci := HC.out i hlt
      obtain ⟨x, hx⟩ : ∃ x, X i = x := ⟨_, rfl⟩
      rw [hx] at ci
      have HX : Hid _ := hx
      clear hx
      by_cases h0 : x = 0
      · subst h0
        go_wp2
        go_roundw
        case rel => exact ⟨i + 1, by omega, by go_num, (trivial : True), fun j hj => by by_cases e : j = i; (rw [e]; exact HX.out); exact HZ.out j (by omega)⟩
        case measure => simp [intOf] <;> omega
      · go_wp2
        go_ret
        refine ⟨?_, rfl⟩
        have hz := HZ.out
        have hx := HX.out
        have e : orN X = x := by
          unfold orN
          have : i = 0 ∨ i = 1 ∨ i = 2 := by omega
          rcases this with rfl | rfl | rfl
          · rw [if_pos (by rw [hx]; exact h0), hx]
          · rw [if_neg (by rw [hz 0 (by decide)]; simp), if_pos (by rw [hx]; exact h0), hx]
          · rw [if_neg (by rw [hz 0 (by decide)]; simp), if_neg (by rw [hz 1 (by decide)]; simp), hx]
        rw [e]
        rfl
    · obtain rfl : i = 3 := by omega
      have hz := HZ.out
      have e : orN X = 0 := by
        unfold orN
        rw [if_neg (by rw [hz 0 (by decide)]; simp), if_neg (by rw [hz 1 (by decide)]; simp), hz 2 (by decide)]
      have HE : Hid _ := e
      clear e hz
      go_wp2
      go_ret
      refine ⟨?_, rfl⟩
      rw [HE.out]
      rfl
/-- may one be taken right behind another? -/
def mf (p q : Pa) (g : Int) : Bool := decide (p.to' + (if p.st = q.st then 0 else g) ≤ q.fr)
set_option maxHeartbeats 4000000 in
theorem mayFollow_any (p q : Pa) (g : Int) (w : World) (hp : p.to' ≤ 1000000 ∧ 0 ≤ p.to') (hg : 0 ≤ g ∧ g ≤ 1000) : Calls Try.prog 23 #[.agg p.arr, .agg q.arr, .int .i64 g] w fun e w' => e = .returned (.bool (mf p q g)) ∧ w.grownBy w' none := by
  obtain ⟨p0, p1, p2, p3⟩ := p
  obtain ⟨q0, q1, q2, q3⟩ := q
  have g1 := World.grownBy_alloc w (.cells (Pa.arr ⟨p0, p1, p2, p3⟩) 29) none
  have g2 := World.grownBy_alloc (w.alloc (.cells (Pa.arr ⟨p0, p1, p2, p3⟩) 29)) (.cells (Pa.arr ⟨q0, q1, q2, q3⟩) 29) none
  have G := grown_trans g1 g2
  unfold mf
  dsimp only [Pa.arr] at *
  by_cases h1 : p0 = q0
  · rw [if_pos h1, Int.add_zero]
    subst h1
    by_cases h2 : p2 ≤ q1
    · rw [decide_eq_true h2]
      go_enter Try.func23, Try.ntmps23
      go_wp2
      go_ret
      exact ⟨rfl, G⟩
    · rw [decide_eq_false h2]
      go_enter Try.func23, Try.ntmps23
      go_wp2
      go_ret
      exact ⟨rfl, G⟩
  · rw [if_neg h1]
    by_cases h2 : p2 + g ≤ q1
    · rw [decide_eq_true h2]
      go_enter Try.func23, Try.ntmps23
      go_wp2
      go_ret
      exact ⟨rfl, G⟩
    · rw [decide_eq_false h2]
      go_enter Try.func23, Try.ntmps23
      go_wp2
      go_ret
      exact ⟨rfl, G⟩
end

section
/-- a row of passes: the places, the worth -/
abbrev Rv := List Nat × Int
def hdP (r : Rv) : Nat := r.1.headD 0
def btX (a b : Rv) (j : Nat) : Int := if j = 0 then cN b.2 a.2 else if j = 1 then cN (a.1.length : Int) (b.1.length : Int) else cN (hdP a : Int) (hdP b : Int)
/-- is a row to be taken rather than another? -/
def btB (a b : Rv) : Bool := decide (orN (btX a b) < 0)
theorem bt_yes {a b : Rv} (h : btB a b = true) : b.2 ≤ a.2 := by
  have h := of_decide_eq_true h
  unfold orN at h
  by_cases c : b.2 ≤ a.2
  · exact c
  · have e : btX a b 0 = 1 := by show cN b.2 a.2 = 1; unfold cN; rw [if_neg (by omega), if_pos (by omega)]
    rw [e, if_pos (by decide)] at h
    exact absurd h (by decide)
theorem bt_no {a b : Rv} (h : btB a b = false) : a.2 ≤ b.2 := by
  have h := of_decide_eq_false h
  unfold orN at h
  by_cases c : a.2 ≤ b.2
  · exact c
  · have e : btX a b 0 = -1 := by show cN b.2 a.2 = -1; unfold cN; rw [if_pos (by omega)]
    rw [e, if_pos (by decide)] at h
    exact absurd (by decide) h
/-- the best one of those that may be -/
def topF (may : Nat → Bool) (Rs : List Rv) (t : Rv) : Rv := Rs.foldl (fun t r => if (may (hdP r) && btB r t) = true then r else t) t
theorem top_app (may : Nat → Bool) (Rs : List Rv) (r t : Rv) : topF may (Rs ++ [r]) t = if (may (hdP r) && btB r (topF may Rs t)) = true then r else topF may Rs t := by
  unfold topF
  rw [List.foldl_append]
  rfl
theorem top_cases (may : Nat → Bool) : ∀ (Rs : List Rv) (t : Rv), topF may Rs t = t ∨ (topF may Rs t ∈ Rs ∧ may (hdP (topF may Rs t)) = true) := by
  intro Rs
  induction Rs with
  | nil => intro t; exact .inl rfl
  | cons r Rs ih =>
    intro t
    show topF may Rs (if (may (hdP r) && btB r t) = true then r else t) = t ∨ _ ∈ r :: Rs ∧ _
    by_cases c : (may (hdP r) && btB r t) = true
    · have e : topF may (r :: Rs) t = topF may Rs r := by show topF may Rs (if _ then r else t) = _; rw [if_pos c]
      rw [e, if_pos c]
      rcases ih r with h | h
      · rw [h]
        exact .inr ⟨List.mem_cons_self .., (Bool.and_eq_true_iff.1 c).1⟩
      · exact .inr ⟨List.mem_cons_of_mem _ h.1, h.2⟩
    · have e : topF may (r :: Rs) t = topF may Rs t := by show topF may Rs (if _ then r else t) = _; rw [if_neg c]
      rw [e, if_neg c]
      rcases ih t with h | h
      · exact .inl h
      · exact .inr ⟨List.mem_cons_of_mem _ h.1, h.2⟩
theorem top_ge (may : Nat → Bool) : ∀ (Rs : List Rv) (t : Rv), t.2 ≤ (topF may Rs t).2 ∧ ∀ r, r ∈ Rs → may (hdP r) = true → r.2 ≤ (topF may Rs t).2 := by
  intro Rs
  induction Rs with
  | nil => intro t; exact ⟨Int.le_refl _, fun r h => by cases h⟩
  | cons q Rs ih =>
    intro t
    show t.2 ≤ (topF may Rs (if (may (hdP q) && btB q t) = true then q else t)).2 ∧ ∀ r, r ∈ q :: Rs → may (hdP r) = true → r.2 ≤ (topF may Rs (if (may (hdP q) && btB q t) = true then q else t)).2
    by_cases c : (may (hdP q) && btB q t) = true
    · rw [if_pos c]
      obtain ⟨h1, h2⟩ := ih q
      have hb := bt_yes (Bool.and_eq_true_iff.1 c).2
      refine ⟨by omega, fun r hr hm => ?_⟩
      rcases List.mem_cons.1 hr with e | e
      · rw [e]; exact h1
      · exact h2 r e hm
    · rw [if_neg c]
      obtain ⟨h1, h2⟩ := ih t
      refine ⟨h1, fun r hr hm => ?_⟩
      rcases List.mem_cons.1 hr with e | e
      · rw [e] at hm ⊢
        rw [hm, Bool.true_and] at c
        have := bt_no (by simpa using c)
        omega
      · exact h2 r e hm
section
variable (F : Nat → Pa) (g : Int)
/-- the best row that begins with i -/
def nwR (Rs : List Rv) (i : Nat) : Rv := (i :: (topF (fun p => mf (F i) (F p) g) Rs ([], 0)).1, (F i).wo + (topF (fun p => mf (F i) (F p) g) Rs ([], 0)).2)
def rwF (O : List Nat) : List Rv := O.foldl (fun Rs i => Rs ++ [nwR F g Rs i]) []
theorem rw_app (O : List Nat) (i : Nat) : rwF F g (O ++ [i]) = rwF F g O ++ [nwR F g (rwF F g O) i] := by
  unfold rwF
  rw [List.foldl_append]
  rfl
def bestV (O : List Nat) : Rv := topF (fun _ => true) (rwF F g O) ([], 0)
/-- passes that may be taken one behind the other -/
def Ch : List Nat → Prop
  | [] => True
  | [_] => True
  | a :: b :: L => mf (F a) (F b) g = true ∧ Ch (b :: L)
def sumW : List Nat → Int
  | [] => 0
  | a :: L => (F a).wo + sumW L
theorem ch_tail {a : Nat} {L : List Nat} (h : Ch F g (a :: L)) : Ch F g L := by
  cases L with
  | nil => trivial
  | cons b L => exact h.2
structure RowOk (O : List Nat) (r : Rv) : Prop where
  ch : Ch F g r.1
  su : sumW F r.1 = r.2
  ins : ∀ p, p ∈ r.1 → p ∈ O
theorem ok_nil (O : List Nat) : RowOk F g O ([], 0) := ⟨trivial, rfl, fun p h => by cases h⟩
theorem snoc_ind {P : List Nat → Prop} (h0 : P []) (h1 : ∀ O i, P O → P (O ++ [i])) : ∀ O, P O := by
  intro O
  have h : ∀ n (O : List Nat), O.length = n → P O := by
    intro n
    induction n with
    | zero => intro O h; rw [List.length_eq_zero_iff.1 h]; exact h0
    | succ n ih =>
      intro O h
      have hne : O ≠ [] := fun e => by rw [e] at h; cases h
      rw [← List.dropLast_concat_getLast hne]
      exact h1 _ _ (ih _ (by rw [List.length_dropLast]; omega))
  exact h _ O rfl
theorem rows_ok : ∀ O r, r ∈ rwF F g O → RowOk F g O r ∧ r.1 ≠ [] ∧ hdP r ∈ O := by
  refine snoc_ind (fun r h => by cases h) ?_
  intro O i ih r hr
  rw [rw_app] at hr
  rcases List.mem_append.1 hr with h | h
  · obtain ⟨k1, k2, k3⟩ := ih r h
    exact ⟨⟨k1.ch, k1.su, fun p hp => List.mem_append_left _ (k1.ins p hp)⟩, k2, List.mem_append_left _ k3⟩
  · rw [List.mem_singleton.1 h]
    have hm : i ∈ O ++ [i] := List.mem_append_right _ (List.mem_singleton.2 rfl)
    have ht : RowOk F g O (topF (fun p => mf (F i) (F p) g) (rwF F g O) ([], 0)) := by
      rcases top_cases (fun p => mf (F i) (F p) g) (rwF F g O) ([], 0) with e | ⟨e, _⟩
      · rw [e]; exact ok_nil F g O
      · exact (ih _ e).1
    refine ⟨⟨?_, ?_, ?_⟩, (fun e => by cases e), hm⟩
    · rcases top_cases (fun p => mf (F i) (F p) g) (rwF F g O) ([], 0) with e | ⟨e, e2⟩
      · unfold nwR
        rw [e]
        trivial
      · obtain ⟨k1, k2, k3⟩ := ih _ e
        unfold nwR
        generalize topF (fun p => mf (F i) (F p) g) (rwF F g O) ([], 0) = t at *
        obtain ⟨L, w⟩ := t
        cases L with
        | nil => exact absurd rfl k2
        | cons b L => exact ⟨e2, k1.ch⟩
    · show (F i).wo + sumW F _ = _
      rw [ht.su]
      rfl
    · intro p hp
      rcases List.mem_cons.1 hp with e | e
      · rw [e]; exact hm
      · exact List.mem_append_left _ (ht.ins p e)
theorem best_ok (O : List Nat) : RowOk F g O (bestV F g O) := by
  unfold bestV
  rcases top_cases (fun _ => true) (rwF F g O) ([], 0) with e | ⟨e, _⟩
  · rw [e]; exact ok_nil F g O
  · exact (rows_ok F g O _ e).1
theorem mf_fr {p q : Pa} (hp : p.fr < p.to') (hg : 0 ≤ g) (h : mf p q g = true) : p.fr < q.fr := by
  have h := of_decide_eq_true h
  split at h <;> omega
theorem ch_up (hF : ∀ i, (F i).fr < (F i).to') (hg : 0 ≤ g) : ∀ (L : List Nat) (a : Nat), Ch F g (a :: L) → ∀ b, b ∈ L → (F a).fr < (F b).fr := by
  intro L
  induction L with
  | nil => intro a _ b hb; cases hb
  | cons c L ih =>
    intro a h b hb
    have h1 := mf_fr g (hF a) hg h.1
    rcases List.mem_cons.1 hb with e | e
    · rw [e]; exact h1
    · have := ih c h.2 b e
      omega
theorem ch_nodup (hF : ∀ i, (F i).fr < (F i).to') (hg : 0 ≤ g) : ∀ (L : List Nat), Ch F g L → L.Nodup := by
  intro L
  induction L with
  | nil => intro _; exact List.nodup_nil
  | cons a L ih =>
    intro h
    refine List.nodup_cons.2 ⟨fun hm => ?_, ih (ch_tail F g h)⟩
    have := ch_up F g hF hg L a h a hm
    omega
/-- NO CHOICE IS WORTH MORE, of those that begin with a pass -/
theorem rows_top (hF : ∀ i, (F i).fr < (F i).to') (hg : 0 ≤ g) : ∀ O : List Nat, O.Pairwise (fun a b => (F b).fr ≤ (F a).fr) → ∀ q Q, Ch F g (q :: Q) → (∀ p, p ∈ q :: Q → p ∈ O) → ∃ r, r ∈ rwF F g O ∧ hdP r = q ∧ sumW F (q :: Q) ≤ r.2 := by
  refine snoc_ind (fun _ q Q _ h => absurd (h q (List.mem_cons_self ..)) (by simp)) ?_
  intro O i ih hp q Q hc hin
  have hp1 := (List.pairwise_append.1 hp).1
  have hpi : ∀ a, a ∈ O → (F i).fr ≤ (F a).fr := fun a ha => (List.pairwise_append.1 hp).2.2 a ha i (List.mem_singleton.2 rfl)
  have hup := ch_up F g hF hg Q q hc
  by_cases hq : q ∈ O
  · obtain ⟨r, h1, h2, h3⟩ := ih hp1 q Q hc (fun p h => by
      rcases List.mem_cons.1 h with e | e
      · rw [e]; exact hq
      · rcases List.mem_append.1 (hin p h) with e2 | e2
        · exact e2
        · have e3 := List.mem_singleton.1 e2
          have h1 := hup p e
          have h2 := hpi q hq
          rw [e3] at h1
          omega)
    exact ⟨r, by rw [rw_app]; exact List.mem_append_left _ h1, h2, h3⟩
  · have hqi : q = i := by
      rcases List.mem_append.1 (hin q (List.mem_cons_self ..)) with e | e
      · exact absurd e hq
      · exact List.mem_singleton.1 e
    subst hqi
    refine ⟨nwR F g (rwF F g O) q, by rw [rw_app]; exact List.mem_append_right _ (List.mem_singleton.2 rfl), rfl, ?_⟩
    obtain ⟨t1, t2⟩ := top_ge (fun p => mf (F q) (F p) g) (rwF F g O) ([], 0)
    show (F q).wo + sumW F Q ≤ (F q).wo + (topF (fun p => mf (F q) (F p) g) (rwF F g O) ([], 0)).2
    cases Q with
    | nil => show (F q).wo + 0 ≤ _; have t1 : (0 : Int) ≤ _ := t1; omega
    | cons b Q =>
      obtain ⟨r, h1, h2, h3⟩ := ih hp1 b Q hc.2 (fun p h => by
        rcases List.mem_append.1 (hin p (List.mem_cons_of_mem _ h)) with e2 | e2
        · exact e2
        · have e3 := List.mem_singleton.1 e2
          have h1 := hup p h
          rw [e3] at h1
          omega)
      have := t2 r h1 (by show mf (F q) (F (hdP r)) g = true; rw [h2]; exact hc.1)
      omega
theorem best_top (hF : ∀ i, (F i).fr < (F i).to') (hg : 0 ≤ g) (O : List Nat) (hO : O.Pairwise (fun a b => (F b).fr ≤ (F a).fr)) (Q : List Nat) (hc : Ch F g Q) (hin : ∀ p, p ∈ Q → p ∈ O) : sumW F Q ≤ (bestV F g O).2 := by
  obtain ⟨t1, t2⟩ := top_ge (fun _ => true) (rwF F g O) ([], 0)
  cases Q with
  | nil => exact t1
  | cons q Q =>
    obtain ⟨r, h1, _, h3⟩ := rows_top F g hF hg O hO q Q hc hin
    have := t2 r h1 rfl
    show _ ≤ (topF (fun _ => true) (rwF F g O) ([], 0)).2
    omega
end
end
end Go.Proofs.Ytpcejajijaphbaa
