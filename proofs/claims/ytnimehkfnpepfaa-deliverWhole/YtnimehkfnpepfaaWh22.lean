import Derived.Test.YtnimehkfnpepfaaWh18
import Derived.Deep.Upon
import Derived.Test.YtnimehkfnpepfaaWh12
import Derived.Test.YtnimehkfnpepfaaWh10
import Derived.Test.YtnimehkfnpepfaaWh15
import Derived.Test.YtnimehkfnpepfaaWh16
import Derived.Test.YtnimehkfnpepfaaWh21
namespace Go.Proofs.Ytnimehkfnpepfaa
open Go.RowKit
set_option maxRecDepth 100000
set_option linter.unusedVariables false
set_option linter.unusedSimpArgs false

section
/-- notes on their way: the row of rows is the call's own, the bytes are only read -/
structure WyM (w : World) (lo : Nat) (a : Option Addr) (n c : Nat) (rs : List Rw) : Prop where
  own : w.ownsRow 0 23 1 (.slice a n c) n (flatR rs)
  len : rs.length = n
  new : ∀ g, (Value.slice a n c).ownBlock = some g → lo ≤ g
  each : ∀ r, r ∈ rs → Ans w lo r.a r.n r.c r.D
section
variable {w w' : World} {lo lo' : Nat} {a : Option Addr} {n c : Nat} {rs : List Rw} {r : Option Nat}
theorem WyM.nil (w : World) (lo : Nat) : WyM w lo none 0 0 [] := ⟨World.ownsRow_nil _ _ _ _, rfl, (fun g h => by cases h), (fun r h => by cases h)⟩
theorem WyM.kR (h : WyM w lo a n c rs) (hg : w.grownBy w' r) (h1 : ∀ z, r = some z → (Value.slice a n c).ownBlock ≠ some z) (h2 : ∀ z, r = some z → ∃ t cs, BxS w z t cs ∧ 5 ≠ t) : WyM w' lo a n c rs := by
  refine ⟨h.own.kept hg ?_, h.len, h.new, fun x hx => (h.each x hx).kRR hg (fun z e => ?_)⟩
  · cases hz : (Value.slice a n c).ownBlock with
    | none => exact .inl rfl
    | some z => exact .inr (fun e => h1 z e.symm hz)
  · obtain ⟨t, cs, hb, ht⟩ := h2 z e
    exact own_ty (h.each x hx).own hb ht
theorem WyM.keep (h : WyM w lo a n c rs) (hg : w.grownBy w' none) : WyM w' lo a n c rs := h.kR hg (fun z e => by cases e) (fun z e => by cases e)
theorem WyM.lt (h : WyM w lo a n c rs) {g : Nat} (e : (Value.slice a n c).ownBlock = some g) : g < w.heap.size := own_ltN h.own e
/-- a box of another type is written -/
theorem WyM.bx {g : Nat} {t : TypeId} {cs : Array Value} (h : WyM w lo a n c rs) (hb : BxS w g t cs) (h1 : 23 ≠ t) (h2 : 5 ≠ t) (hg : w.grownBy w' (some g)) : WyM w' lo a n c rs :=
  h.kR hg (fun z e => by have e := Option.some.inj e; subst e; exact own_ty h.own hb h1) (fun z e => by have e := Option.some.inj e; subst e; exact ⟨t, cs, hb, h2⟩)
/-- another way is written -/
theorem WyM.by {lo2 : Nat} {b : Option Addr} {m d : Nat} {qs : List Rw} (h : WyM w lo a n c rs) (k : WyM w lo2 b m d qs) (hne : ∀ z, (Value.slice b m d).ownBlock = some z → (Value.slice a n c).ownBlock ≠ some z) (hg : w.grownBy w' (Value.slice b m d).ownBlock) : WyM w' lo a n c rs :=
  h.kR hg hne (fun z e => by obtain ⟨cs, hb⟩ := own_bxS k.own e; exact ⟨_, cs, hb, by decide⟩)
/-- what else lies still where a way is written -/
theorem WyM.ans (h : WyM w lo a n c rs) (hg : w.grownBy w' (Value.slice a n c).ownBlock) {lo2 : Nat} {b : Option Addr} {m d : Nat} {L : List Nat} (k : Ans w lo2 b m d L) : Ans w' lo2 b m d L :=
  k.kRR hg (fun z e => by obtain ⟨cs, hb⟩ := own_bxS h.own e; exact own_ty k.own hb (by decide))
theorem WyM.owg (h : WyM w lo a n c rs) (hg : w.grownBy w' (Value.slice a n c).ownBlock) {lo2 : Nat} {b : Option Addr} {m d : Nat} {G : List (Int × Int)} (k : OwGi w lo2 b m d G) : OwGi w' lo2 b m d G :=
  k.kR hg (fun z e => by obtain ⟨cs, hb⟩ := own_bxS h.own e; exact k.neB hb (by decide))
theorem WyM.own' (h : WyM w lo a n c rs) (hg : w.grownBy w' (Value.slice a n c).ownBlock) {lo2 : Nat} {b : Option Addr} {m d : Nat} {xs : List Nx} (k : OwN w lo2 b m d xs) : OwN w' lo2 b m d xs :=
  k.kR hg (fun z e hz => by
    obtain ⟨cs, hb⟩ := own_bxS h.own e
    rcases hz with hz | ⟨x, hx, hz | hz⟩
    · exact own_ty k.own hb (by decide) hz
    · exact own_ty (k.eA x hx).own hb (by decide) hz
    · exact own_ty (k.eO x hx).own hb (by decide) hz)
theorem WyM.box (h : WyM w lo a n c rs) (hg : w.grownBy w' (Value.slice a n c).ownBlock) {g : Nat} {t : TypeId} {cs : Array Value} (k : BxS w g t cs) (ht : 23 ≠ t) : BxS w' g t cs :=
  k.keep hg (fun e => own_ty h.own k ht e.symm)
theorem WyM.cells (h : WyM w lo a n c rs) {g : Nat} (e : a = some ⟨g, 0, none⟩) : ∀ j u, (flatR rs)[j]? = some u → w.cell? ⟨g, j, none⟩ = some u := by
  subst e
  intro j u hu
  have := h.own.cells (g := g) rfl j u hu
  rw [addr_add', Nat.zero_add] at this
  exact this
theorem WyM.some (h : WyM w lo a n c rs) (hn : 0 < n) : ∃ g, a = some ⟨g, 0, none⟩ ∧ g < w.heap.size := by
  rcases h.own.2 with ⟨h1, h2⟩ | ⟨g, cap, cur, h1, _, hh, _⟩
  · omega
  · simp only [Value.slice.injEq] at h1
    exact ⟨g, h1.1, (Array.getElem?_eq_some_iff.1 hh).1⟩
theorem WyM.max (h : WyM w lo a n c rs) : n ≤ c ∧ c ≤ maxLen := by
  rcases h.own.2 with ⟨h1, h2⟩ | ⟨g, cap, cur, h1, _, hh, hle, hmx, _⟩
  · simp only [Value.slice.injEq] at h1
    have := h1.2.2
    unfold maxLen; omega
  · simp only [Value.slice.injEq] at h1
    obtain ⟨_, _, rfl⟩ := h1
    exact ⟨hle, hmx⟩
/-- append: what comes behind lies somewhere -/
theorem wpList_joinY {ops : Array Oper} {rest : List Oper} {o : Oper} {ac : Act} {Q : Exit → Act → World → Prop} (hg : o.guard = none) (s x : Operand)
    (hop : o.op = Op.call { callee := .builtin .append, args := #[s, x], argTypes := #[73, 73] }) (hs : ac.eval s = .slice a n c)
    (hA : WyM w lo a n c rs) (hlo : lo ≤ w.heap.size) (ax : Option Addr) (m cx : Nat) (qs : List Rw) (hm0 : qs.length = m) (hx : ac.eval x = .slice ax m cx) (h0 : ax = none → m = 0 ∧ cx = 0) (hc : ∀ ad, ax = some ad → ∀ j u, (flatR qs)[j]? = some u → w.cell? (ad.add j) = some u) (hq : ∀ r, r ∈ qs → Ans w lo r.a r.n r.c r.D) (hb : n + m ≤ 1000000)
    (hK : ∀ a' c' w', WyM w' lo a' (n + m) c' (rs ++ qs) → w.grownBy w' (Value.slice a n c).ownBlock → (∀ z, (Value.slice a' (n + m) c').ownBlock = some z → (Value.slice a n c).ownBlock = some z ∨ w.heap.size ≤ z) → wpList Try.prog ops Q rest (ac.put o.dst (.slice a' (n + m) c')) w') :
    wpList Try.prog ops Q (o :: rest) ac w := by
  obtain ⟨i0, hi, hz0, hz1, hz2⟩ := info_parts Try.info_rw
  have keepE : ∀ {w2 : World}, w.grownBy w2 (Value.slice a n c).ownBlock → ∀ r, r ∈ rs ++ qs → Ans w2 lo r.a r.n r.c r.D := fun hgr r hr => by
    rcases List.mem_append.1 hr with h | h
    · exact hA.ans hgr (hA.each r h)
    · exact hA.ans hgr (hq r h)
  have one : ∀ u, u ∈ flatR qs → u.oneCell' = true := by
    intro u hu
    unfold flatR at hu
    obtain ⟨r, _, rfl⟩ := List.mem_map.1 hu
    rfl
  cases ax with
  | none =>
    obtain ⟨hn0, hc0⟩ := h0 rfl
    subst hn0 hc0
    have hqs : qs = [] := List.length_eq_zero_iff.1 hm0
    subst hqs
    refine wpList_append_own_none hg s x 73 hop 0 23 i0 1 Try.underlying73 hi (.slice a n c) n (flatR rs) hs hA.own hx ?_
    exact hK a c w (by rw [List.append_nil]; exact hA) (World.grownBy.refl _ _) (fun z e => .inl e)
  | some ad =>
    by_cases hm : 0 < m
    · refine wpList_apS w hg s x 73 23 i0 zr 1 24 Try.underlying73 hi hz0 hz1 hz2 rfl (by decide) hop (.slice a n c) n (flatR rs) hs hA.own ad m cx (flatR qs) hx (by unfold flatR; rw [List.length_map]; omega) (hc ad rfl) one hm (by unfold maxLen; omega) (by omega) ?_
      intro g cap w' hor hgr hown
      refine hK _ cap w' ⟨by unfold flatR at hown ⊢; rw [List.map_append]; exact hown, by rw [List.length_append, hA.len, hm0], fun y hy => ?_, keepE hgr⟩ hgr (fun z e => ?_)
      · have e : g = y := Option.some.inj hy
        subst e
        rcases hor with h | h
        · exact hA.new g h
        · omega
      · have e : g = z := Option.some.inj e
        subst e
        exact hor
    · have hm9 : m = 0 := by omega
      subst hm9
      have hqs : qs = [] := List.length_eq_zero_iff.1 hm0
      subst hqs
      refine wpList_plain hg fun K hK2 => ?_
      have hrun := run_append_nothing (P := Try.prog) w 73 73 o.type 23 i0 Try.underlying73 hi a n c hA.max.1 _ (Src.ofSlice w Try.underlying73 ad 0 cx [] (by simp) (fun j u hu => by cases hu) (fun u hu => by cases hu))
      unfold Oper.wp
      simp [execOp, hop, resolve, invoke, builtin, hs, hx, hrun, Result.andThen]
      exact hK2 _ _ (hK a c w (by rw [List.append_nil]; exact hA) (World.grownBy.refl _ _) (fun z e => .inl e))
/-- append one -/
theorem wpList_psY {ops : Array Oper} {rest : List Oper} {o : Oper} {ac : Act} {Q : Exit → Act → World → Prop} (hg : o.guard = none) (s x : Operand)
    (hop : o.op = Op.call { callee := .builtin .append, args := #[s, x], argTypes := #[73, 73] }) (hs : ac.eval s = .slice a n c)
    (hA : WyM w lo a n c rs) (hlo : lo ≤ w.heap.size) (gx : Nat) (q : Rw) (hx : ac.eval x = .slice (some ⟨gx, 0, none⟩) 1 1) (hB : BxS w gx 23 #[q.v]) (hq : Ans w lo q.a q.n q.c q.D) (hb : n + 1 ≤ 1000000)
    (hK : ∀ a' c' w', WyM w' lo a' (n + 1) c' (rs ++ [q]) → w.grownBy w' (Value.slice a n c).ownBlock → (∀ z, (Value.slice a' (n + 1) c').ownBlock = some z → (Value.slice a n c).ownBlock = some z ∨ w.heap.size ≤ z) → wpList Try.prog ops Q rest (ac.put o.dst (.slice a' (n + 1) c')) w') :
    wpList Try.prog ops Q (o :: rest) ac w :=
  wpList_joinY hg s x hop hs hA hlo (.some ⟨gx, 0, none⟩) 1 1 [q] rfl hx (fun h => by cases h) (fun ad e => by cases e; exact hB.newsA) (fun r hr => by rw [List.mem_singleton.1 hr]; exact hq) hb hK
/-- some cells of a box are written -/
def setA (A : Array Value) : Nat → List Value → Array Value
  | _, [] => A
  | o, v :: r => setA (A.setIfInBounds o v) (o + 1) r
theorem box_setA {g : Nat} {t : TypeId} : ∀ (L : List Value) (o : Nat) (w : World) (A : Array Value), BxS w g t A → BxS (w.setCells g o L) g t (setA A o L) ∧ w.grownBy (w.setCells g o L) (some g) := by
  intro L
  induction L with
  | nil => intro o w A h; exact ⟨h, World.grownBy.refl _ _⟩
  | cons v L ih =>
    intro o w A h
    have h1 : BxS (w.setCell ⟨g, o, none⟩ v) g t (A.setIfInBounds o v) := by unfold BxS; rw [heap_setCell_same w g o _ _ _ h]
    obtain ⟨k1, k2⟩ := ih (o + 1) _ _ h1
    exact ⟨k1, grown_trans (grown_set w g o v) k2⟩
theorem wpList_stP {ops : Array Oper} {rest : List Oper} {o : Oper} {ac : Act} {Q : Exit → Act → World → Prop} (hg : o.guard = none) (t : TypeId) (p x : Operand) (hop : o.op = Op.store t p x)
    (g i : Nat) (ty : TypeId) (A A' B : Array Value) (hp : ac.eval p = .pointer (some ⟨g, i, none⟩)) (hx : ac.eval x = .agg B) (hB : BxS w g ty A) (hin : (Try.prog.info? t).map (·.size) = some B.size) (hi : i + B.size ≤ A.size) (h1 : B.all (·.oneCell') = true) (hA : setA A i B.toList = A')
    (hK : ∀ w', BxS w' g ty A' → w.grownBy w' (some g) → wpList Try.prog ops Q rest (ac.put o.dst undef) w') :
    wpList Try.prog ops Q (o :: rest) ac w := by
  obtain ⟨k1, k2⟩ := box_setA B.toList i w A hB
  rw [hA] at k1
  refine wpList_store_mid hg t p x hop g i B hp hx (fun j hj => ⟨?_, frozen_of_row w g _ _ _ hB⟩) hin h1 (hK _ k1 k2)
  rw [cell_of_row _ _ _ _ _ _ hB, Array.getElem?_eq_getElem (by omega)]
  rfl
theorem BxS.range {g : Nat} {t : TypeId} {A : Array Value} (h : BxS w g t A) (o : Nat) (cs : List Value) (hc : (A.toList.drop o).take cs.length = cs) : w.rangeAt g o cs := by
  intro j v hv
  rw [cell_of_row _ _ _ _ _ _ h]
  have hj : j < cs.length := (List.getElem?_eq_some_iff.1 hv).1
  rw [← hc, List.getElem?_take, if_pos hj, List.getElem?_drop] at hv
  rw [← hv]
  simp
end
theorem OwN.pushQ {w w' : World} {lo : Nat} {na : Option Addr} {nn nc : Nat} {xs : List Nx} (h : OwN w lo na nn nc xs) {x : Nx} (hxA : Ans w lo x.a x.da.length x.c x.da) (hxO : OwGi w lo x.q x.ga.length x.d x.ga) (hsep : ∀ z, ((Value.slice x.a x.da.length x.c).ownBlock = some z ∨ (Value.slice x.q x.ga.length x.d).ownBlock = some z) → ¬ Nbl na nn nc xs z)
    {gx cx : Nat} (hl : lo ≤ w.heap.size) (hor : (Value.slice na nn nc).ownBlock = some gx ∨ w.heap.size ≤ gx) (u : w.grownBy w' (Value.slice na nn nc).ownBlock) (hO : w'.ownsRow 0 27 10 (.slice (some ⟨gx, 0, none⟩) (nn + 1) cx) (nn + 1) (flN xs ++ x.cells)) : OwN w' lo (some ⟨gx, 0, none⟩) (nn + 1) cx (xs ++ [x]) := by
  have hrow : ∀ z, (Value.slice na nn nc).ownBlock = some z → ∃ cs, BxS w z 27 cs := fun z e => own_bxS h.own e
  have kA : ∀ {y : Nx}, Ans w lo y.a y.da.length y.c y.da → Ans w' lo y.a y.da.length y.c y.da := fun hy => hy.kRR u (fun z e e2 => by obtain ⟨cs, hb⟩ := hrow z e; exact own_ty hy.own hb (by decide) e2)
  have kO : ∀ {y : Nx}, OwGi w lo y.q y.ga.length y.d y.ga → OwGi w' lo y.q y.ga.length y.d y.ga := fun hy => hy.kR u (fun z e => by obtain ⟨cs, hb⟩ := hrow z e; exact hy.neB hb (by decide))
  refine ⟨by rw [flN_add]; exact hO, by rw [List.length_append, h.len]; rfl, (fun z e => ?_), (fun y hy => ?_), (fun y hy => ?_), ?_, ?_⟩
  · have e : gx = z := Option.some.inj e
    subst e
    rcases hor with e | e
    · exact h.new _ e
    · omega
  · rcases List.mem_append.1 hy with hy | hy
    · exact kA (h.eA y hy)
    · rw [List.mem_singleton.1 hy]; exact kA hxA
  · rcases List.mem_append.1 hy with hy | hy
    · exact kO (h.eO y hy)
    · rw [List.mem_singleton.1 hy]; exact kO hxO
  · refine List.pairwise_append.2 ⟨h.pA, List.pairwise_singleton _ _, fun y hy z hz g e e2 => ?_⟩
    rw [List.mem_singleton.1 hz] at e2
    exact hsep g (.inl e2) (.inr ⟨y, hy, .inl e⟩)
  · refine List.pairwise_append.2 ⟨h.pO, List.pairwise_singleton _ _, fun y hy z hz g e e2 => ?_⟩
    rw [List.mem_singleton.1 hz] at e2
    exact hsep g (.inr e2) (.inr ⟨y, hy, .inr e⟩)
theorem step_of_listQ {ops : Array Oper} {o : Oper} {a : Act} {w : World} {K : Act → World → Prop} {Q : Exit → Act → World → Prop} {E : Prop} (hg : o.guard = none) (h : wpList Try.prog ops (Exit.then K (fun _ _ _ => False)) [o] a w) :
    if Region.wanted o (yielded ops a.tmps) = true then Oper.wp Try.prog o a w K Q else E := by
  have hw : Region.wanted o (yielded ops a.tmps) = true := by simp [Region.wanted, hg]
  rw [if_pos hw]
  unfold wpList at h
  rw [if_pos hw] at h
  rcases h with h | ⟨_, a', w', h⟩
  · unfold Oper.wp at *
    generalize (execOp a.eval o).run Try.prog w = r at *
    cases r with
    | ok n w' =>
      cases n <;> simp only [Oper.upon] at h ⊢ <;>
        first
          | exact h
          | exact Calls.mono h (fun e w'' he => by
              cases e with
              | returned v => exact he
              | panicked c => exact he.elim
              | outgrown => obtain ⟨a', w', he⟩ := he; exact he.elim)
          | exact Rows.mono h (fun _ _ he => he)
    | halt x w' =>
      cases x <;> simp only [Oper.upon] at h ⊢ <;> first | exact h | exact h.elim
  · exact h.elim
/-- append one note -/
theorem wpList_psNq {w : World} {ops : Array Oper} {rest : List Oper} {o : Oper} {a : Act} {Q : Exit → Act → World → Prop} (hg : o.guard = none) (s x : Operand)
    (hop : o.op = Op.call { callee := .builtin .append, args := #[s, x], argTypes := #[54, 54] }) (na : Option Addr) (nn nc lo : Nat) (xs : List Nx) (hs : a.eval s = .slice na nn nc)
    (hN : OwN w lo na nn nc xs) (hlo : lo ≤ w.heap.size) (gA : Nat) (xx : Nx) (hx : a.eval x = .slice (some ⟨gA, 0, none⟩) 1 1) (bA : BxS w gA 27 xx.arr) (hm : nn ≤ 100000) (hxA : Ans w lo xx.a xx.da.length xx.c xx.da) (hxO : OwGi w lo xx.q xx.ga.length xx.d xx.ga) (hsep : ∀ z, ((Value.slice xx.a xx.da.length xx.c).ownBlock = some z ∨ (Value.slice xx.q xx.ga.length xx.d).ownBlock = some z) → ¬ Nbl na nn nc xs z)
    (hK : ∀ na' nc' w', OwN w' lo na' (nn + 1) nc' (xs ++ [xx]) → w.grownBy w' (Value.slice na nn nc).ownBlock → wpList Try.prog ops Q rest (a.put o.dst (.slice na' (nn + 1) nc')) w') :
    wpList Try.prog ops Q (o :: rest) a w := by
  obtain ⟨i0, hi, hz0, hz1, hz2⟩ := info_parts Try.info_nt3
  refine wpList_apS w hg s x 54 27 i0 _ 10 120 Try.underlying54 hi hz0 hz1 hz2 rfl (by decide) hop (.slice na nn nc) nn (flN xs) hs hN.own ⟨gA, 0, none⟩ 1 1 xx.cells hx rfl bA.newsA (by intro u hu; simp only [Nx.cells, Nx.arr, List.mem_cons, List.not_mem_nil, or_false] at hu; rcases hu with rfl | rfl | rfl | rfl | rfl | rfl | rfl | rfl | rfl | rfl <;> rfl) (by decide) (by unfold maxLen; omega) (by omega) ?_
  intro gx cx w8 hor u8 hO8
  exact hK _ _ w8 (hN.pushQ hxA hxO hsep hlo hor u8 hO8) u8
end

section
theorem stc_stg (g i : Nat) (n : Int) (w : World) (hc : ∃ u, w.cell? ⟨g, i, none⟩ = some u) (hf : w.frozen? ⟨g, i, none⟩ = false) : (Instr.storeAt 42 (.pointer (some ⟨g, i, none⟩)) (.int .i64 n)).run Try.prog w = .ok () (w.setCell ⟨g, i, none⟩ (.int .i64 n)) := by
  obtain ⟨u, hc⟩ := hc
  simp [go_sem, hc, hf]
section
variable {wB w w' : World} {g3 g4 g7 : Nat} {NN : Array Value} {id : Int} {nm : ByteArray} {mo bu st : Int} {fi : Bool} {at' ti pa tr li : Int} {a : Option Addr} {n c : Nat} {L : List Nat} {q : Option Addr} {m d : Nat} {G : List (Int × Int)}
end
end

section
theorem results_c1t2 {fn : Func} {p u v : Tmp} {ty : TypeId} (h : fn.results = #[.cell p ty, .tmp u, .tmp v]) (tmps : Array Value) (P : Program) (w : World) (a : Addr) (x y z : Value) (ha : tmps.getD p undef = .pointer (some a)) (hl : (loadVar ty a).run P w = .ok x w) (hy : tmps.getD u undef = y) (hz : tmps.getD v undef = z) :
    (results fn tmps).run P w = .ok (.tuple #[x, y, z]) w := by
  simp only [results, h]
  rw [Array.getD_eq_getD_getElem?] at ha hy hz
  simp [Sem.run_bind, Result.andThen]
  rw [ha]
  simp [asAddr, hl, hy, hz]
/-- a giver is loaded out of one at work -/
theorem ld_13 {w : World} {o : Oper} {a : Act} {p : Operand} {g : Nat} {v0 v1 v2 v3 v4 v5 v6 v7 v8 v9 v10 v11 v12 v13 : Value} (hop : o.op = Op.load 44 p) (hp : a.eval p = .pointer (some ⟨g, 0, none⟩)) (h : BxS w g 100 #[v0, v1, v2, v3, v4, v5, v6, v7, v8, v9, v10, v11, v12, v13]) : (execOp a.eval o).run Try.prog w = .ok (.value (.agg #[v0, v1, v2, v3, v4, v5, v6, v7, v8, v9, v10, v11, v12])) w := by
  have i13 := Try.info_gv
  have u13 := Try.underlying44
  obtain ⟨c0, c1, c2, c3, c4, c5, c6, c7, c8, c9, c10, c11, c12, c13⟩ := h.cell14
  simp [execOp, hop, hp]
  go_simp

set_option maxHeartbeats 16000000 in
theorem rp_t8 {u0 u1 u2 u3 u5 u6 u8 u9 u10 u11 u12 u13 u14 u15 u16 u17 u18 u19 u20 u21 u22 u23 u24 u25 u26 u27 u28 u29 u30 u31 u32 u33 u34 u35 u36 u37 : Value} (P : Ending → World → Prop) (wB w : World) (gw : Nat) (id : Int) (nm : ByteArray) (mo bu st : Int) (fi : Bool) (at' ti pa tr li : Int) (a : Option Addr) (n c : Nat) (L : List Nat) (q : Option Addr) (m d : Nat) (G : List (Int × Int)) (na : Option Addr) (nn nc : Nat) (xs : List Nx) (h : GW wB w gw id nm mo bu st fi at' ti pa tr li a n c L q m d G na nn nc xs) (g4 : Nat) (cs4 : Array Value) (hs4 : cs4.size = 13) (b4 : BxS w g4 44 cs4)
    (hP : ∀ w', w.grownBy w' (some g4) → P (.returned (.tuple #[.agg #[.int .i64 id, .string nm, .slice a n c, .int .i64 mo, .int .i64 bu, .int .i64 st, .bool fi, .int .i64 at', .slice q m d, .int .i64 ti, .int .i64 pa, .int .i64 tr, .int .i64 li], .slice na nn nc, .int .i64 0])) w') :
    Code.wp Try.prog (tailR 8 (Try.f35.body.getD .skip)) (bodyPost Try.prog Try.f35 P) (Act.mk (List.toArray (u0 :: u1 :: u2 :: u3 :: (.pointer (some ⟨g4, 0, none⟩)) :: u5 :: u6 :: (.pointer (some ⟨gw, 0, none⟩)) :: u8 :: u9 :: u10 :: u11 :: u12 :: u13 :: u14 :: u15 :: u16 :: u17 :: u18 :: u19 :: u20 :: u21 :: u22 :: u23 :: u24 :: u25 :: u26 :: u27 :: u28 :: u29 :: u30 :: u31 :: u32 :: u33 :: u34 :: u35 :: u36 :: u37 :: [])) []) w := by
  conv => enter [2]; whnf
  have HP : Hid _ := hP
  clear hP
  have i13 := Try.info_gv
  refine wp_seq_k fun K1 hK1 => ?_
  have HK1 : Hid _ := hK1
  clear hK1
  have Gd := grown_drew w none
  have SS : BxS w.drew gw 100 #[.int .i64 id, .string nm, .slice a n c, .int .i64 mo, .int .i64 bu, .int .i64 st, .bool fi, .int .i64 at', .slice q m d, .int .i64 ti, .int .i64 pa, .int .i64 tr, .int .i64 li, .slice na nn nc] := h.bx.keep Gd (by simp)
  have b4d := b4.keep Gd (by simp)
  refine wp_regionL (fun wz => BxS wz gw 100 #[.int .i64 id, .string nm, .slice a n c, .int .i64 mo, .int .i64 bu, .int .i64 st, .bool fi, .int .i64 at', .slice q m d, .int .i64 ti, .int .i64 pa, .int .i64 tr, .int .i64 li, .slice na nn nc]) [] #[false, false, false, false, false, false, false, false, false, false, false] rfl (by kernel_rfl) ?_
  refine wpAnyZ_take [] 0 (.pointer (some ⟨gw, 0, none⟩)) rfl (by kernel_rfl) (fun _ _ _ h => h) SS rfl (by intro wz hz; go_simp) ?_
  try simp only [zc1, zc2, zc3, Act.put, zc4, zc5, zc6]
  refine wpAnyZ_take [] 1 (.pointer (some ⟨gw, 0, none⟩)) rfl (by kernel_rfl) (fun _ _ _ h => h) SS rfl (by intro wz hz; go_simp) ?_
  try simp only [zc1, zc2, zc3, Act.put, zc4, zc5, zc6]
  refine wpAnyZ_take [] 2 (.pointer (some ⟨gw, 0, none⟩)) rfl (by kernel_rfl) (fun _ _ _ h => h) SS rfl (by intro wz hz; go_simp) ?_
  try simp only [zc1, zc2, zc3, Act.put, zc4, zc5, zc6]
  refine wpAnyZ_take [] 3 (.agg #[.int .i64 id, .string nm, .slice a n c, .int .i64 mo, .int .i64 bu, .int .i64 st, .bool fi, .int .i64 at', .slice q m d, .int .i64 ti, .int .i64 pa, .int .i64 tr, .int .i64 li]) rfl (by kernel_rfl) (fun _ _ _ h => h) SS rfl (by intro wz hz; exact ld_13 rfl rfl hz) ?_
  try simp only [zc1, zc2, zc3, Act.put, zc4, zc5, zc6]
  refine wpAnyZ_take [] 4 (.pointer (some ⟨gw, 0, none⟩)) rfl (by kernel_rfl) (fun _ _ _ h => h) SS rfl (by intro wz hz; go_simp) ?_
  try simp only [zc1, zc2, zc3, Act.put, zc4, zc5, zc6]
  refine wpAnyZ_take [] 5 (.pointer (some ⟨gw, 0, none⟩)) rfl (by kernel_rfl) (fun _ _ _ h => h) SS rfl (by intro wz hz; go_simp) ?_
  try simp only [zc1, zc2, zc3, Act.put, zc4, zc5, zc6]
  refine wpAnyZ_take [] 6 (.pointer (some ⟨gw, 13, none⟩)) rfl (by kernel_rfl) (fun _ _ _ h => h) SS rfl (by intro wz hz; go_simp) ?_
  try simp only [zc1, zc2, zc3, Act.put, zc4, zc5, zc6]
  refine wpAnyZ_take [] 7 (.slice na nn nc) rfl (by kernel_rfl) (fun _ _ _ h => h) SS rfl (by intro wz hz; have z : wz.cell? ⟨gw, 13, none⟩ = some (.slice na nn nc) := hz.cell 13 (by show 13 < 14; decide); go_simp) ?_
  try simp only [zc1, zc2, zc3, Act.put, zc4, zc5, zc6]
  have l4 := b4d.lt
  generalize w.drew = w2 at *
  refine wpAnyZ_oneB 8 rfl (by kernel_rfl) (fun KK hKK => ?_)
  refine step_stX _ rfl _ _ _ rfl g4 _ _ rfl rfl b4d i13 hs4 (by simp [Value.oneCell']) ?_
  intro w3 b43 u3
  have S3 := SS.keep u3 (fun e => BxS.apart SS b4d (by decide) (Option.some.inj e))
  refine hKK _ _ (fun _ => S3) ?_
  try simp only [zc1, zc2, zc3, Act.put, zc4, zc5, zc6]
  refine wpAnyZ_take [] 9 (.slice na nn nc) rfl (by kernel_rfl) (fun _ _ _ h => h) S3 rfl (by intro wz hz; go_simp) ?_
  try simp only [zc1, zc2, zc3, Act.put, zc4, zc5, zc6]
  refine wpAnyZ_take [] 10 (.int .i64 0) rfl (by kernel_rfl) (fun _ _ _ h => h) S3 rfl (by intro wz hz; go_simp) ?_
  try simp only [zc1, zc2, zc3, Act.put, zc4, zc5, zc6]
  refine wpAnyZ_doneB (by kernel_rfl) ?_ _
  refine HK1.out _ _ ?_
  clear HK1
  go_wp2
  refine bodyPost_ret (results_c1t2 rfl _ _ _ ⟨g4, 0, none⟩ _ _ _ rfl (BxS.load (t := 44) b43 Try.underlying44 Try.info_gv) rfl rfl) rfl ?_
  exact HP.out w3 (grown_trans (grown_weak Gd _) u3)
end

section
/-- an answer of a giver: the giver, what goes, an error -/
def RpA (w : World) (id : Int) (nm : ByteArray) (mo bu st : Int) (fi : Bool) (at' ti pa tr li : Int) (L : List Nat) (G : List (Int × Int)) (xs : List Nx) (E : Nat) (e : Ending) (w' : World) : Prop :=
  ∃ a c q d na nc, e = .returned (.tuple #[.agg (gvA id nm (.slice a L.length c) mo bu st fi at' (.slice q G.length d) ti pa tr li), .slice na xs.length nc, .int .i64 (E : Nat)]) ∧ Ans w' w.heap.size a L.length c L ∧ OwGi w' w.heap.size q G.length d G ∧ OwN w' w.heap.size na xs.length nc xs ∧ (∀ z, (Value.slice a L.length c).ownBlock = some z → ¬ Nbl na xs.length nc xs z) ∧ (∀ z, (Value.slice q G.length d).ownBlock = some z → ¬ Nbl na xs.length nc xs z) ∧ w.grownBy w' none

/-- what is at work is the answer -/
theorem GW.rpA {wB w w' : World} {gw : Nat} {id : Int} {nm : ByteArray} {mo bu st : Int} {fi : Bool} {at' ti pa tr li : Int} {a : Option Addr} {n c : Nat} {L : List Nat} {q : Option Addr} {m d : Nat} {G : List (Int × Int)} {na : Option Addr} {nn nc : Nat} {xs : List Nx} (h : GW wB w gw id nm mo bu st fi at' ti pa tr li a n c L q m d G na nn nc xs) {g4 : Nat} {cs4 : Array Value} (b4 : BxS w g4 44 cs4) (h4 : wB.heap.size ≤ g4) (u : w.grownBy w' (some g4)) (E : Nat) : RpA wB id nm mo bu st fi at' ti pa tr li L G xs E (.returned (.tuple #[.agg #[.int .i64 id, .string nm, .slice a n c, .int .i64 mo, .int .i64 bu, .int .i64 st, .bool fi, .int .i64 at', .slice q m d, .int .i64 ti, .int .i64 pa, .int .i64 tr, .int .i64 li], .slice na nn nc, .int .i64 (E : Nat)])) w' := by
  have h1 := h.A.len
  have h2 := h.O.len
  have h3 := h.N.len
  subst h1 h2 h3
  exact ⟨a, c, q, d, na, nc, rfl, h.A.kRR u (fun z e e2 => by have e := Option.some.inj e; subst e; exact own_ty h.A.own b4 (by decide) e2), h.O.bx b4 (by decide) u, h.N.bx b4 (by decide) (by decide) (by decide) u, h.sA, h.sO, grown_far h.g u (fun z e => by have e := Option.some.inj e; omega)⟩

set_option maxHeartbeats 16000000 in
theorem reply_no (id : Int) (nm : ByteArray) (a : Option Addr) (n c : Nat) (mo bu st : Int) (fi : Bool) (at' : Int) (q : Option Addr) (m d : Nat) (ti pa tr li : Int) (L : List Nat) (F : Nat → Int × Int) (kd nid : Int) (nm2 : ByteArray) (si su at2 : Int) (pa2 : Option Addr) (pn pc : Nat) (ga : Option Addr) (gm gd : Nat) (o co : Int) (F2 : Nat → Int × Int) (w : World) (hL : Rd w a n c L) (hG : RdG w q m d F) (hF2 : RdG w ga gm gd F2) (hn : n ≤ 140737488351232) (hm : m ≤ 8796093021952) (hpa : -9223372036854775808 ≤ pa ∧ pa ≤ 9223372036854775807) (hB : gvB id nm.size n mo bu st fi at' m (alG F n m) ti pa tr li = false) : Calls Try.prog 35 #[.agg (gvA id nm (.slice a n c) mo bu st fi at' (.slice q m d) ti pa tr li), .agg (ntA kd nid nm2 si su at2 (.slice pa2 pn pc) (.slice ga gm gd) o co)] w fun e w' => RpA w 0 ⟨#[]⟩ 0 0 0 false 0 0 0 0 0 [] [] [] 11 e w' := by
  have b2 := BxS.new w 44 #[.int .i64 id, .string nm, .slice a n c, .int .i64 mo, .int .i64 bu, .int .i64 st, .bool fi, .int .i64 at', .slice q m d, .int .i64 ti, .int .i64 pa, .int .i64 tr, .int .i64 li]
  have y2 := World.grownBy_alloc w (.cells #[.int .i64 id, .string nm, .slice a n c, .int .i64 mo, .int .i64 bu, .int .i64 st, .bool fi, .int .i64 at', .slice q m d, .int .i64 ti, .int .i64 pa, .int .i64 tr, .int .i64 li] 44) none
  have i13 := Try.info_gv
  have i10 := Try.info_nt
  unfold gvA ntA
  have hz2 : (w.alloc (.cells #[.int .i64 id, .string nm, .slice a n c, .int .i64 mo, .int .i64 bu, .int .i64 st, .bool fi, .int .i64 at', .slice q m d, .int .i64 ti, .int .i64 pa, .int .i64 tr, .int .i64 li] 44)).heap.size = w.heap.size + 1 := by simp
  generalize hw2 : w.alloc (.cells #[.int .i64 id, .string nm, .slice a n c, .int .i64 mo, .int .i64 bu, .int .i64 st, .bool fi, .int .i64 at', .slice q m d, .int .i64 ti, .int .i64 pa, .int .i64 tr, .int .i64 li] 44) = w2 at b2 y2 hz2
  have b3 := BxS.new w2 27 #[.int .i64 kd, .int .i64 nid, .string nm2, .int .i64 si, .int .i64 su, .int .i64 at2, .slice pa2 pn pc, .slice ga gm gd, .int .i64 o, .int .i64 co]
  rw [hz2] at b3
  have y3 := World.grownBy_alloc w2 (.cells #[.int .i64 kd, .int .i64 nid, .string nm2, .int .i64 si, .int .i64 su, .int .i64 at2, .slice pa2 pn pc, .slice ga gm gd, .int .i64 o, .int .i64 co] 27) none
  have hz3 : (w2.alloc (.cells #[.int .i64 kd, .int .i64 nid, .string nm2, .int .i64 si, .int .i64 su, .int .i64 at2, .slice pa2 pn pc, .slice ga gm gd, .int .i64 o, .int .i64 co] 27)).heap.size = w.heap.size + 2 := by simp [hz2]
  generalize hw3 : w2.alloc (.cells #[.int .i64 kd, .int .i64 nid, .string nm2, .int .i64 si, .int .i64 su, .int .i64 at2, .slice pa2 pn pc, .slice ga gm gd, .int .i64 o, .int .i64 co] 27) = w3 at b3 y3 hz3
  have b4 := BxS.new w3 44 #[.int .i64 0, .string ⟨#[]⟩, .slice none 0 0, .int .i64 0, .int .i64 0, .int .i64 0, .bool false, .int .i64 0, .slice none 0 0, .int .i64 0, .int .i64 0, .int .i64 0, .int .i64 0]
  rw [hz3] at b4
  have y4 := World.grownBy_alloc w3 (.cells #[.int .i64 0, .string ⟨#[]⟩, .slice none 0 0, .int .i64 0, .int .i64 0, .int .i64 0, .bool false, .int .i64 0, .slice none 0 0, .int .i64 0, .int .i64 0, .int .i64 0, .int .i64 0] 44) none
  generalize hw4 : w3.alloc (.cells #[.int .i64 0, .string ⟨#[]⟩, .slice none 0 0, .int .i64 0, .int .i64 0, .int .i64 0, .bool false, .int .i64 0, .slice none 0 0, .int .i64 0, .int .i64 0, .int .i64 0, .int .i64 0] 44) = w4 at b4 y4
  have b24 := (b2.keep y3 (by simp)).keep y4 (by simp)
  have b34 := b3.keep y4 (by simp)
  have G4 := grown_trans (grown_trans y2 y3) y4
  have l4 := b4.lt
  have s0 : True := trivial
  go_enter Try.func35, Try.ntmps35
  go_wp2_with (first
    | (have _t := s0; clear s0; refine wpList_ldX _ rfl _ (.tmp 2) rfl w.heap.size _ rfl b24 Try.underlying44 i13 ?_; have s1 : True := trivial)
    | (go_at_call 66; have _t := s1; clear s1; refine (giverMay_any id nm a n c mo bu st fi at' q m d ti pa tr li F w4 (hG.keep G4) hpa).mono ?_; rintro e w5 ⟨he, y5⟩; rw [hB] at he; subst he; have b25 := b24.keep y5 (by simp); have b35 := b34.keep y5 (by simp); have b45 := b4.keep y5 (by simp); have G5 := grown_trans G4 y5; have s2 : True := trivial)
    | (have _t := s2; clear s2; refine wpList_stX _ rfl _ (.tmp 4) (.tmp 12) rfl (w.heap.size + 2) _ _ rfl rfl b45 i13 rfl (by simp [Value.oneCell']) ?_; intro w6 b46 u6))
  refine bodyPost_ret (results_c1t2 rfl _ _ _ ⟨w.heap.size + 2, 0, none⟩ _ _ _ rfl (BxS.load (t := 44) b46 Try.underlying44 Try.info_gv) rfl rfl) rfl ?_
  exact ⟨none, 0, none, 0, none, 0, rfl, Ans.nil _ _, OwGi.nil _ _, OwN.nil _ _, (fun z e => by cases e), (fun z e => by cases e), grown_far G5 u6 (fun z e => by have e := Option.some.inj e; omega)⟩
end

section
set_option maxHeartbeats 16000000 in
/-- a giver at work shares no memory with what was handed in -/
theorem atWork_any (id : Int) (nm : ByteArray) (a : Option Addr) (n c : Nat) (mo bu st : Int) (fi : Bool) (at' : Int) (q : Option Addr) (m d : Nat) (ti pa tr li : Int) (F : Nat → Int × Int) (L : List Nat) (w : World) (hL : Rd w a n c L) (hG : RdG w q m d F) (hn : n ≤ 140737488351232) (hm : m ≤ 8796093021952) : Calls Try.prog 67 #[.agg (gvA id nm (.slice a n c) mo bu st fi at' (.slice q m d) ti pa tr li)] w fun e w' => ∃ gw a' c' q' d', e = .returned (.pointer (some ⟨gw, 0, none⟩)) ∧ BxS w' gw 100 #[.int .i64 id, .string nm, .slice a' n c', .int .i64 mo, .int .i64 bu, .int .i64 st, .bool fi, .int .i64 at', .slice q' m d', .int .i64 ti, .int .i64 pa, .int .i64 tr, .int .i64 li, .slice none 0 0] ∧ Ans w' w.heap.size a' n c' L ∧ OwGi w' w.heap.size q' m d' (tabG F m) ∧ w.heap.size ≤ gw ∧ w.grownBy w' none := by
  have b0 := BxS.new w 44 #[.int .i64 id, .string nm, .slice a n c, .int .i64 mo, .int .i64 bu, .int .i64 st, .bool fi, .int .i64 at', .slice q m d, .int .i64 ti, .int .i64 pa, .int .i64 tr, .int .i64 li]
  have g0 := World.grownBy_alloc w (.cells #[.int .i64 id, .string nm, .slice a n c, .int .i64 mo, .int .i64 bu, .int .i64 st, .bool fi, .int .i64 at', .slice q m d, .int .i64 ti, .int .i64 pa, .int .i64 tr, .int .i64 li] 44) none
  have i13 := Try.info_gv
  unfold gvA
  generalize hw0 : w.alloc (.cells #[.int .i64 id, .string nm, .slice a n c, .int .i64 mo, .int .i64 bu, .int .i64 st, .bool fi, .int .i64 at', .slice q m d, .int .i64 ti, .int .i64 pa, .int .i64 tr, .int .i64 li] 44) = w0 at b0 g0
  have l0 := b0.lt
  go_enter Try.func67, Try.ntmps67
  refine wp_seq_k fun K1 hK1 => ?_
  have HK1 : Hid _ := hK1
  clear hK1
  go_wp2
  refine HK1.out _ _ ?_
  clear HK1
  refine wp_seq_k fun K2 hK2 => ?_
  have HK2 : Hid _ := hK2
  clear hK2
  have Gd := grown_drew w0 none
  have SS : BxS w0.drew w.heap.size 44 #[.int .i64 id, .string nm, .slice a n c, .int .i64 mo, .int .i64 bu, .int .i64 st, .bool fi, .int .i64 at', .slice q m d, .int .i64 ti, .int .i64 pa, .int .i64 tr, .int .i64 li] := b0.keep Gd (by simp)
  have G1 := grown_trans g0 Gd
  refine wp_regionL (fun wz => BxS wz w.heap.size 44 #[.int .i64 id, .string nm, .slice a n c, .int .i64 mo, .int .i64 bu, .int .i64 st, .bool fi, .int .i64 at', .slice q m d, .int .i64 ti, .int .i64 pa, .int .i64 tr, .int .i64 li]) [7, 8, 9] #[false, false, false, false, false, false, false, false, false, false] rfl (by kernel_rfl) ?_
  refine wpAnyZ_take [7, 8, 9] 0 (.pointer (some ⟨w.heap.size, 2, none⟩)) rfl (by kernel_rfl) (fun _ _ _ h => h) SS rfl (by intro wz hz; go_simp) ?_
  try simp only [zc1, zc2, zc3, Act.put, zc4, zc5, zc6]
  refine wpAnyZ_take [7, 8, 9] 1 (.slice a n c) rfl (by kernel_rfl) (fun _ _ _ h => h) SS rfl (by intro wz hz; have z2 : wz.cell? ⟨w.heap.size, 2, none⟩ = some (.slice a n c) := hz.cell 2 (by show 2 < 13; decide); go_simp) ?_
  try simp only [zc1, zc2, zc3, Act.put, zc4, zc5, zc6]
  refine wpAnyZ_take [7, 8, 9] 3 (.pointer (some ⟨w.heap.size, 8, none⟩)) rfl (by kernel_rfl) (fun _ _ _ h => h) SS rfl (by intro wz hz; go_simp) ?_
  try simp only [zc1, zc2, zc3, Act.put, zc4, zc5, zc6]
  refine wpAnyZ_take [7, 8, 9] 4 (.slice q m d) rfl (by kernel_rfl) (fun _ _ _ h => h) SS rfl (by intro wz hz; have z8 : wz.cell? ⟨w.heap.size, 8, none⟩ = some (.slice q m d) := hz.cell 8 (by show 8 < 13; decide); go_simp) ?_
  try simp only [zc1, zc2, zc3, Act.put, zc4, zc5, zc6]
  have l1 := SS.lt
  generalize w0.drew = w1 at *
  refine wpAnyZ_oneB 2 rfl (by kernel_rfl) (fun KK hKK => ?_)
  go_simp
  go_at_call 57
  refine (dclone_any a n c L w1 (hL.keep G1) (by omega)).mono ?_
  rintro e w2 ⟨a5, c5, rfl, hA5, y2⟩
  dsimp only
  have S2 := SS.keep y2 (by simp)
  have G2 := grown_trans G1 y2
  refine hKK _ _ (fun _ => S2) ?_
  try simp only [zc1, zc2, zc3, Act.put, zc4, zc5, zc6]
  refine wpAnyZ_take [7, 8, 9] 6 (.pointer (some ⟨w.heap.size, 2, none⟩)) rfl (by kernel_rfl) (fun _ _ _ h => h) S2 rfl (by intro wz hz; go_simp) ?_
  try simp only [zc1, zc2, zc3, Act.put, zc4, zc5, zc6]
  refine wpAnyZ_oneB 5 rfl (by kernel_rfl) (fun KK hKK => ?_)
  go_simp
  go_at_call 93
  refine (gclone_any q m d F w2 (hG.keep G2) hm).mono ?_
  rintro e w3 ⟨q5, d5, rfl, hO5, y3⟩
  dsimp only
  have S3 := S2.keep y3 (by simp)
  have hA3 := hA5.keep y3
  have G3 := grown_trans G2 y3
  refine hKK _ _ (fun _ => S3) ?_
  try simp only [zc1, zc2, zc3, Act.put, zc4, zc5, zc6]
  refine wpAnyZ_oneB 7 rfl (by kernel_rfl) (fun KK hKK => ?_)
  refine step_stCd _ rfl _ _ _ rfl w.heap.size 2 44 _ #[.int .i64 id, .string nm, .slice a5 n c5, .int .i64 mo, .int .i64 bu, .int .i64 st, .bool fi, .int .i64 at', .slice q m d, .int .i64 ti, .int .i64 pa, .int .i64 tr, .int .i64 li] (.slice a5 n c5) rfl rfl S3 (fun w' h1 h2 => stc_sl _ _ _ _ _ _ h1 h2) (by show 2 < 13; decide) rfl ?_
  intro w4 b4 u4
  refine hKK _ _ (fun h => absurd (by decide) h) ?_
  try simp only [zc1, zc2, zc3, Act.put, zc4, zc5, zc6]
  refine wpAnyZ_takeF 8 (.pointer (some ⟨w.heap.size, 8, none⟩)) rfl (by kernel_rfl) (fun _ _ _ h => h) rfl (by intro wz; go_simp) ?_
  try simp only [zc1, zc2, zc3, Act.put, zc4, zc5, zc6]
  refine wpAnyZ_oneB 9 rfl (by kernel_rfl) (fun KK hKK => ?_)
  refine step_stCd _ rfl _ _ _ rfl w.heap.size 8 44 _ #[.int .i64 id, .string nm, .slice a5 n c5, .int .i64 mo, .int .i64 bu, .int .i64 st, .bool fi, .int .i64 at', .slice q5 m d5, .int .i64 ti, .int .i64 pa, .int .i64 tr, .int .i64 li] (.slice q5 m d5) rfl rfl b4 (fun w' h1 h2 => stc_slG _ _ _ _ _ _ h1 h2) (by show 8 < 13; decide) rfl ?_
  intro w5 b5 u5
  refine hKK _ _ (fun h => absurd (by decide) h) ?_
  try simp only [zc1, zc2, zc3, Act.put, zc4, zc5, zc6]
  refine wpAnyZ_doneB (by kernel_rfl) ?_ _
  have z1 := G1.size
  have z2 := G2.size
  have hA4 := (hA3.kept u4 (.inr (fun e => by have := hA5.new _ e; omega))).kept u5 (.inr (fun e => by have := hA5.new _ e; omega))
  have hO4 := (hO5.bx S3 (by decide) u4).bx b4 (by decide) u5
  have G5 := grown_far (grown_far G3 u4 (fun q e => by have e := Option.some.inj e; omega)) u5 (fun q e => by have e := Option.some.inj e; omega)
  refine HK2.out _ _ ?_
  clear HK2
  have bW := BxS.new w5 100 #[.int .i64 id, .string nm, .slice a5 n c5, .int .i64 mo, .int .i64 bu, .int .i64 st, .bool fi, .int .i64 at', .slice q5 m d5, .int .i64 ti, .int .i64 pa, .int .i64 tr, .int .i64 li, .slice none 0 0]
  have gW := World.grownBy_alloc w5 (.cells #[.int .i64 id, .string nm, .slice a5 n c5, .int .i64 mo, .int .i64 bu, .int .i64 st, .bool fi, .int .i64 at', .slice q5 m d5, .int .i64 ti, .int .i64 pa, .int .i64 tr, .int .i64 li, .slice none 0 0] 100) none
  generalize hw6 : w5.alloc (.cells #[.int .i64 id, .string nm, .slice a5 n c5, .int .i64 mo, .int .i64 bu, .int .i64 st, .bool fi, .int .i64 at', .slice q5 m d5, .int .i64 ti, .int .i64 pa, .int .i64 tr, .int .i64 li, .slice none 0 0] 100) = w6 at bW gW
  have z5 := G5.size
  have s0 : True := trivial
  go_wp2_with (have _t := s0; clear s0; refine wpList_ldX _ rfl _ (.tmp 1) rfl w.heap.size _ rfl b5 Try.underlying44 i13 ?_)
  go_ret
  exact ⟨w5.heap.size, a5, c5, q5, d5, rfl, bW, (hA4.keep gW).wide (by omega), (hO4.keep gW).wide (by omega), by omega, grown_trans G5 gW⟩
end

section
theorem nbl_nil {z : Nat} : ¬ Nbl none 0 0 [] z := fun h => by
  rcases h with h | ⟨x, hx, _⟩
  · cases h
  · cases hx
theorem rdk3 {w : World} {g : Nat} (h : BxS w g 22 #[.int .i64 4, .int .i64 5, .int .i64 6]) : ∀ i, i < 3 → w.cell? ⟨g, i, none⟩ = some (.int .i64 (([4, 5, 6] : List Int).getD i 0)) := by
  intro i hi
  have h3 : i = 0 ∨ i = 1 ∨ i = 2 := by omega
  rcases h3 with rfl | rfl | rfl
  · exact h.cell 0 (by show 0 < 3; decide)
  · exact h.cell 1 (by show 1 < 3; decide)
  · exact h.cell 2 (by show 2 < 3; decide)

set_option maxHeartbeats 16000000 in
theorem reply_err (id : Int) (nm : ByteArray) (a : Option Addr) (n c : Nat) (mo bu st : Int) (fi : Bool) (at' : Int) (q : Option Addr) (m d : Nat) (ti pa tr li : Int) (L : List Nat) (F : Nat → Int × Int) (kd nid : Int) (nm2 : ByteArray) (si su at2 : Int) (pa2 : Option Addr) (pn pc : Nat) (ga : Option Addr) (gm gd : Nat) (o co : Int) (F2 : Nat → Int × Int) (w : World) (hL : Rd w a n c L) (hG : RdG w q m d F) (hF2 : RdG w ga gm gd F2) (hn : n ≤ 140737488351232) (hm : m ≤ 8796093021952) (hpa : -9223372036854775808 ≤ pa ∧ pa ≤ 9223372036854775807) (hB : gvB id nm.size n mo bu st fi at' m (alG F n m) ti pa tr li = true) (E : Nat) (hE : wnE (ntB kd nid nm2.size si su at2 pn gm o co (alG F2 65536 gm)) nid id (hasK [4, 5, 6] kd 3) = E) (hE0 : E ≠ 0) : Calls Try.prog 35 #[.agg (gvA id nm (.slice a n c) mo bu st fi at' (.slice q m d) ti pa tr li), .agg (ntA kd nid nm2 si su at2 (.slice pa2 pn pc) (.slice ga gm gd) o co)] w fun e w' => RpA w id nm mo bu st fi at' ti pa tr li L (tabG F m) [] E e w' := by
  have b2 := BxS.new w 44 #[.int .i64 id, .string nm, .slice a n c, .int .i64 mo, .int .i64 bu, .int .i64 st, .bool fi, .int .i64 at', .slice q m d, .int .i64 ti, .int .i64 pa, .int .i64 tr, .int .i64 li]
  have y2 := World.grownBy_alloc w (.cells #[.int .i64 id, .string nm, .slice a n c, .int .i64 mo, .int .i64 bu, .int .i64 st, .bool fi, .int .i64 at', .slice q m d, .int .i64 ti, .int .i64 pa, .int .i64 tr, .int .i64 li] 44) none
  have i13 := Try.info_gv
  have i10 := Try.info_nt
  unfold gvA ntA
  have hz2 : (w.alloc (.cells #[.int .i64 id, .string nm, .slice a n c, .int .i64 mo, .int .i64 bu, .int .i64 st, .bool fi, .int .i64 at', .slice q m d, .int .i64 ti, .int .i64 pa, .int .i64 tr, .int .i64 li] 44)).heap.size = w.heap.size + 1 := by simp
  generalize hw2 : w.alloc (.cells #[.int .i64 id, .string nm, .slice a n c, .int .i64 mo, .int .i64 bu, .int .i64 st, .bool fi, .int .i64 at', .slice q m d, .int .i64 ti, .int .i64 pa, .int .i64 tr, .int .i64 li] 44) = w2 at b2 y2 hz2
  have b3 := BxS.new w2 27 #[.int .i64 kd, .int .i64 nid, .string nm2, .int .i64 si, .int .i64 su, .int .i64 at2, .slice pa2 pn pc, .slice ga gm gd, .int .i64 o, .int .i64 co]
  rw [hz2] at b3
  have y3 := World.grownBy_alloc w2 (.cells #[.int .i64 kd, .int .i64 nid, .string nm2, .int .i64 si, .int .i64 su, .int .i64 at2, .slice pa2 pn pc, .slice ga gm gd, .int .i64 o, .int .i64 co] 27) none
  have hz3 : (w2.alloc (.cells #[.int .i64 kd, .int .i64 nid, .string nm2, .int .i64 si, .int .i64 su, .int .i64 at2, .slice pa2 pn pc, .slice ga gm gd, .int .i64 o, .int .i64 co] 27)).heap.size = w.heap.size + 2 := by simp [hz2]
  generalize hw3 : w2.alloc (.cells #[.int .i64 kd, .int .i64 nid, .string nm2, .int .i64 si, .int .i64 su, .int .i64 at2, .slice pa2 pn pc, .slice ga gm gd, .int .i64 o, .int .i64 co] 27) = w3 at b3 y3 hz3
  have b4 := BxS.new w3 44 #[.int .i64 0, .string ⟨#[]⟩, .slice none 0 0, .int .i64 0, .int .i64 0, .int .i64 0, .bool false, .int .i64 0, .slice none 0 0, .int .i64 0, .int .i64 0, .int .i64 0, .int .i64 0]
  rw [hz3] at b4
  have y4 := World.grownBy_alloc w3 (.cells #[.int .i64 0, .string ⟨#[]⟩, .slice none 0 0, .int .i64 0, .int .i64 0, .int .i64 0, .bool false, .int .i64 0, .slice none 0 0, .int .i64 0, .int .i64 0, .int .i64 0, .int .i64 0] 44) none
  generalize hw4 : w3.alloc (.cells #[.int .i64 0, .string ⟨#[]⟩, .slice none 0 0, .int .i64 0, .int .i64 0, .int .i64 0, .bool false, .int .i64 0, .slice none 0 0, .int .i64 0, .int .i64 0, .int .i64 0, .int .i64 0] 44) = w4 at b4 y4
  have b24 := (b2.keep y3 (by simp)).keep y4 (by simp)
  have b34 := b3.keep y4 (by simp)
  have G4 := grown_trans (grown_trans y2 y3) y4
  have l4 := b4.lt
  have hEi : ¬ ((E : Nat) : Int) = 0 := by omega
  have s0 : True := trivial
  go_enter Try.func35, Try.ntmps35
  go_wp2_with (first
    | (have _t := s0; clear s0; refine wpList_ldX _ rfl _ (.tmp 2) rfl w.heap.size _ rfl b24 Try.underlying44 i13 ?_; have s1 : True := trivial)
    | (go_at_call 66; have _t := s1; clear s1; refine (giverMay_any id nm a n c mo bu st fi at' q m d ti pa tr li F w4 (hG.keep G4) hpa).mono ?_; rintro e w5 ⟨he, y5⟩; rw [hB] at he; subst he; have b25 := b24.keep y5 (by simp); have b35 := b34.keep y5 (by simp); have b45 := b4.keep y5 (by simp); have G5 := grown_trans G4 y5; have s2 : True := trivial)
    | (have _t := s2; clear s2; refine wpList_ldX _ rfl _ (.tmp 2) rfl w.heap.size _ rfl b25 Try.underlying44 i13 ?_; have s3 : True := trivial)
    | (go_at_call 67; have _t := s3; clear s3; refine (atWork_any id nm a n c mo bu st fi at' q m d ti pa tr li F L w5 (hL.keep G5) (hG.keep G5) hn hm).mono ?_; rintro e w6 ⟨gw, a6, c6, q6, d6, rfl, bW, hA6, hO6, hgl, y6⟩; have z5 := G5.size; have G6 := grown_trans G5 y6; have hW : GW w w6 gw id nm mo bu st fi at' ti pa tr li a6 n c6 L q6 m d6 (tabG F m) none 0 0 [] := ⟨bW, hA6.wide z5, hO6.wide z5, OwN.nil _ _, by omega, (fun z e => nbl_nil), (fun z e => nbl_nil), G6⟩; have b26 := b25.keep y6 (by simp); have b36 := b35.keep y6 (by simp); have b46 := b45.keep y6 (by simp); have x0 : w6.cell? ⟨w.heap.size, 0, none⟩ = some (.int .i64 id) := b26.cell 0 (by show 0 < 13; decide); have bK := BxS.new w6 22 #[.int .i64 4, .int .i64 5, .int .i64 6]; have yK := World.grownBy_alloc w6 (.cells #[.int .i64 4, .int .i64 5, .int .i64 6] 22) none; generalize hw7 : w6.alloc (.cells #[.int .i64 4, .int .i64 5, .int .i64 6] 22) = w7 at bK yK; have hW7 := hW.keepN yK; have b37 := b36.keep yK (by simp); have b47 := b46.keep yK (by simp); have G7 := grown_trans G6 yK; have s4 : True := trivial)
    | (have _t := s4; clear s4; refine wpList_ldX _ rfl _ (.tmp 3) rfl (w.heap.size + 1) _ rfl b36 Try.underlying27 i10 ?_; have s5 : True := trivial)
    | (go_at_call 69; have _t := s5; clear s5; refine (wrongNote_any kd nid nm2 si su at2 pa2 pn pc ga gm gd o co F2 id w6.heap.size 3 3 [4, 5, 6] w7 (hF2.keep G7) ⟨rfl, by decide, rdk3 bK⟩ (Nat.le_refl _)).mono ?_; rintro e w8 ⟨he, y8⟩; rw [hE] at he; subst he; have hW8 := hW7.keepN y8; have b38 := b37.keep y8 (by simp); have b48 := b47.keep y8 (by simp); obtain ⟨k0, k1, k2, k3, k4, k5, k6, k7, k8, k9, k10, k11, k12, k13⟩ := BxS.cell14 hW8.bx; have s6 : True := trivial)
    | (have _t := s6; clear s6; refine wpList_stX _ rfl _ (.tmp 4) (.tmp 25) rfl (w.heap.size + 2) _ _ rfl rfl b48 i13 rfl (by simp [Value.oneCell']) ?_; intro w9 b49 u9))
  refine bodyPost_ret (results_c1t2 rfl _ _ _ ⟨w.heap.size + 2, 0, none⟩ _ _ _ rfl (BxS.load (t := 44) b49 Try.underlying44 Try.info_gv) rfl rfl) rfl ?_
  exact hW8.rpA b48 (by omega) u9 E
end
end Go.Proofs.Ytnimehkfnpepfaa
