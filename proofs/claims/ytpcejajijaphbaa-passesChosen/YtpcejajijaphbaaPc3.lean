import Derived.Deep.MidRow
import Derived.Test.YtpcejajijaphbaaPc0
import Derived.Test.YtpcejajijaphbaaPc2
namespace Go.Proofs.Ytpcejajijaphbaa
open Go.RowKit
set_option maxRecDepth 100000
set_option linter.unusedVariables false
set_option linter.unusedSimpArgs false

section
theorem rdX_one (w : World) (e : TypeId) (v : Value) (h1 : v.oneCell' = true) : RdX (w.alloc (.cells #[v] e)) (some ⟨w.heap.size, 0, none⟩) 1 1 [v] := by
  refine ⟨rfl, Nat.le_refl _, by decide, (fun h => by cases h), ?_, fun _ => ⟨w.heap.size, 0, rfl, by simp, fun i u hu => ?_⟩⟩
  · intro u hu
    have e : u = v := by simpa using hu
    rw [e]; exact h1
  · rw [cell_of_row _ _ _ _ _ _ (heap_alloc_new w _), Nat.zero_add]
    simpa using hu
/-- 'append(v, u)', v of the call's own -/
theorem wpList_psX {t e : TypeId} {z : Value} {by' : Nat} (E : ElT t e z by') (w : World) (u : Value) (h1 : u.oneCell' = true) {ops : Array Oper} {rest : List Oper} {o : Oper} {a : Act} {Q : Exit → Act → World → Prop} (hg : o.guard = none) (s x : Operand)
    (hop : o.op = Op.call { callee := .builtin .append, args := #[s, x], argTypes := #[t, t] }) (ao : Option Addr) (m co lo : Nat) (D : List Value) (hs : a.eval s = .slice ao m co)
    (hA : AnsX e w lo ao m co D) (hlo : lo ≤ w.heap.size) (hx : a.eval x = .slice (some ⟨w.heap.size, 0, none⟩) 1 1) (hb : m + 1 ≤ 8000000000000)
    (hK : ∀ gx cx w', AnsX e w' lo (some ⟨gx, 0, none⟩) (m + 1) cx (D ++ [u]) → w.grownBy w' (Value.slice ao m co).ownBlock → ((Value.slice ao m co).ownBlock = some gx ∨ w.heap.size ≤ gx) → wpList Try.prog ops Q rest (a.put o.dst (.slice (some ⟨gx, 0, none⟩) (m + 1) cx)) w') :
    wpList Try.prog ops Q (o :: rest) a (w.alloc (.cells #[u] e)) := by
  obtain ⟨i0, hi, hz0, hz1, hz2⟩ := info_parts E.inf
  have gA := World.grownBy_alloc w (.cells #[u] e) none
  have hR := rdX_one w e u h1
  have hpos := E.pos
  have hle : (m + 1) * by' ≤ (m + 1) * 16 := Nat.mul_le_mul_left _ hpos
  refine wpList_apS _ hg s x t e i0 z 1 by' E.und hi hz0 hz1 hz2 E.one (by decide) hop (.slice ao m co) m D hs (hA.own.alloc _) ⟨w.heap.size, 0, none⟩ 1 1 [u] hx rfl ?_ hR.one (by decide) (by unfold maxLen; omega) (by omega) ?_
  · intro j v hv
    obtain ⟨b, off, e', _, hc⟩ := hR.at' (by decide)
    cases e'
    rw [addr_add]
    exact hc j v hv
  · intro g c w' hgx hgr hown
    have hsz := gA.size
    refine hK g c w' ⟨hown, ?_, fun y hy => ?_⟩ (grown_trans (grown_weak gA _) hgr) ?_
    · intro v hv
      rcases List.mem_append.1 hv with h | h
      · exact hA.one v h
      · exact hR.one v h
    · have e' : g = y := Option.some.inj hy
      subst e'
      rcases hgx with h | h
      · exact hA.new g h
      · omega
    · rcases hgx with h | h
      · exact .inl h
      · exact .inr (by omega)
theorem run_mkX {t e : TypeId} {z : Value} {by' : Nat} (E : ElT t e z by') (hz : z.oneCell' = true) (hc : z.cells = #[z]) (n : Nat) (hn : n ≤ 1000) (w : World) :
    ∃ w', (Instr.makeSlice t (.int .i64 (n : Int)) (.int .i64 (n : Int))).run Try.prog w = .ok (.slice (some ⟨w.heap.size, 0, none⟩) n n) w' ∧ AnsX e w' w.heap.size (some ⟨w.heap.size, 0, none⟩) n n (List.replicate n z) ∧ w.grownBy w' none := by
  obtain ⟨i0, hi, hz0, hz1, hz2⟩ := info_parts E.inf
  have hpos := E.pos
  have hle : i0.bytes * n ≤ 16 * n := Nat.mul_le_mul_right _ (by omega)
  obtain ⟨w', hrun, r1, r2⟩ := run_make_full (P := Try.prog) w w.heap.size t e i0 z 1 E.und hi hz0 hz1 .i64 .i64 n (by omega) (by unfold maxLen; omega) (Nat.le_refl _)
  refine ⟨w', hrun, ⟨?_, ?_, fun g h => by have e : w.heap.size = g := Option.some.inj h; omega⟩, r2⟩
  · rw [Nat.mul_one, hc, toList_madeCells_one] at r1
    exact own_baseX r1
  · intro u hu
    rw [List.eq_of_mem_replicate hu]; exact hz
/-- a pass -/
structure Pa where
  st : Int
  fr : Int
  to' : Int
  wo : Int
def Pa.cells (p : Pa) : List Value := [.int .i64 p.st, .int .i64 p.fr, .int .i64 p.to', .int .i64 p.wo]
def Pa.arr (p : Pa) : Array Value := #[.int .i64 p.st, .int .i64 p.fr, .int .i64 p.to', .int .i64 p.wo]
structure Pa.ok (p : Pa) : Prop where
  st : 0 ≤ p.st ∧ p.st ≤ 31
  fr : 0 ≤ p.fr ∧ p.fr ≤ 1000000
  to' : p.fr + 1 ≤ p.to' ∧ p.to' ≤ 1000000
  wo : 0 ≤ p.wo ∧ p.wo ≤ 1000000
theorem Try.info_pa : (Try.prog.info? 29).map (fun i => i.size) = some 4 := by kernel_rfl
theorem Try.elP : ElT 52 45 (.pointer none) 8 := ⟨Try.underlying52, by kernel_rfl, rfl, by decide⟩
theorem Try.elN : ElT 23 3 (.int .i64 0) 8 := ⟨Try.underlying23, by kernel_rfl, rfl, by decide⟩
/-- passes as they are read -/
structure RdPa (w : World) (a : Option Addr) (n cap : Nat) (F : Nat → Pa) : Prop where
  le : n ≤ cap
  max : cap ≤ maxLen
  at' : 0 < n → ∃ b off, a = some ⟨b, off, none⟩ ∧ b < w.heap.size ∧ ∀ i, i < n → w.rangeAt b (off + i * 4) (F i).cells
theorem range_keep {w w' : World} {b o : Nat} {cs : List Value} (h : w.rangeAt b o cs) (hb : b < w.heap.size) (hg : w.grownBy w' none) : w'.rangeAt b o cs := by
  intro j v hv
  have := h j v hv
  unfold World.cell? at this ⊢
  rw [hg.block b hb (by simp)]
  exact this
theorem RdPa.keep {w w' : World} {a : Option Addr} {n cap : Nat} {F : Nat → Pa} (h : RdPa w a n cap F) (hg : w.grownBy w' none) : RdPa w' a n cap F :=
  ⟨h.le, h.max, fun h0 => by
    obtain ⟨b, off, e, hb, hc⟩ := h.at' h0
    exact ⟨b, off, e, Nat.lt_of_lt_of_le hb hg.size, fun i hi => range_keep (hc i hi) hb hg⟩⟩
section
variable {w : World}
theorem BxS.rangeR {g : Nat} {t : TypeId} {A : Array Value} (h : BxS w g t A) (o : Nat) (cs : List Value) (hc : (A.toList.drop o).take cs.length = cs) : w.rangeAt g o cs := by
  intro j v hv
  rw [cell_of_row _ _ _ _ _ _ h]
  have hj : j < cs.length := (List.getElem?_eq_some_iff.1 hv).1
  rw [← hc, List.getElem?_take, if_pos hj, List.getElem?_drop] at hv
  rw [← hv]
  simp
theorem ldMR {o : Oper} {a : Act} {t : TypeId} {p : Operand} {g off : Nat} {cs : List Value} {d : TypeDesc} (hop : o.op = Op.load t p) (hp : a.eval p = .pointer (some ⟨g, off, none⟩)) (hr : w.rangeAt g off cs) (hu : Try.prog.underlying t = some d) (hd : d.isRow = true) (hi : (Try.prog.info? t).map (·.size) = some cs.length) : (execOp a.eval o).run Try.prog w = .ok (.value (.agg cs.toArray)) w := by
  simp [execOp, hop, hp, run_loadAt_mid w g off t cs d hr hu hd hi, Result.andThen]
theorem step_of_listR {ops : Array Oper} {o : Oper} {a : Act} {K : Act → World → Prop} {Q : Exit → Act → World → Prop} {E : Prop} (hg : o.guard = none) (h : wpList Try.prog ops (Exit.then K (fun _ _ _ => False)) [o] a w) :
    if Region.wanted o (yielded ops a.tmps) = true then Oper.wp Try.prog o a w K Q else E := by
  have hw : Region.wanted o (yielded ops a.tmps) = true := by simp [Region.wanted, hg]
  rw [if_pos hw]
  unfold wpList at h
  rw [if_pos hw] at h
  rcases h with h | ⟨_, a', w', h⟩
  · unfold Oper.wp at *
    generalize (execOp a.eval o).run Try.prog w = r at *
    cases r with
    | ok n w' =>
      cases n <;> simp only [Oper.upon] at h ⊢ <;>
        first
          | exact h
          | exact Calls.mono h (fun e w'' he => by
              cases e with
              | returned v => exact he
              | panicked c => exact he.elim
              | outgrown => obtain ⟨a', w', he⟩ := he; exact he.elim)
          | exact Rows.mono h (fun _ _ he => he)
    | halt x w' =>
      cases x <;> simp only [Oper.upon] at h ⊢ <;> first | exact h | exact h.elim
  · exact h.elim
end
/-- cmp.Compare -/
def cN (x y : Int) : Int := if x < y then -1 else if y < x then 1 else 0
theorem isNaN_any (x : Int) (w : World) : Calls Try.prog 30 #[.int .i64 x] w fun e w' => e = .returned (.bool false) ∧ w' = w := by
  go_enter Try.func30, Try.ntmps30
  go_wp2
  go_ret
  exact ⟨rfl, rfl⟩
theorem compare_any (x y : Int) (w : World) : Calls Try.prog 27 #[.int .i64 x, .int .i64 y] w fun e w' => e = .returned (.int .i64 (cN x y)) ∧ w' = w := by
  have H := fun z wz => isNaN_any z wz
  unfold cN
  by_cases h1 : x < y
  · rw [if_pos h1]
    go_enter Try.func27, Try.ntmps27
    go_wp2_with (go_at_call 30; refine (H _ _).mono ?_; rintro e wx ⟨rfl, hwx⟩; rw [hwx]; clear hwx)
    go_ret
    exact ⟨rfl, rfl⟩
  · rw [if_neg h1]
    by_cases h2 : y < x
    · rw [if_pos h2]
      go_enter Try.func27, Try.ntmps27
      go_wp2_with (go_at_call 30; refine (H _ _).mono ?_; rintro e wx ⟨rfl, hwx⟩; rw [hwx]; clear hwx)
      go_ret
      exact ⟨rfl, rfl⟩
    · rw [if_neg h2]
      go_enter Try.func27, Try.ntmps27
      go_wp2_with (go_at_call 30; refine (H _ _).mono ?_; rintro e wx ⟨rfl, hwx⟩; rw [hwx]; clear hwx)
      go_ret
      exact ⟨rfl, rfl⟩
def orN (X : Nat → Int) : Int := if X 0 ≠ 0 then X 0 else if X 1 ≠ 0 then X 1 else X 2
set_option maxHeartbeats 4000000 in
theorem or_any (g : Nat) (X : Nat → Int) (w : World) (hc : ∀ j, j < 3 → w.cell? ⟨g, j, none⟩ = some (.int .i64 (X j))) : Calls Try.prog 26 #[.slice (some ⟨g, 0, none⟩) 3 3] w fun e w' => e = .returned (.int .i64 (orN X)) ∧ w' = w := by
  have HC : Hid _ := hc
  clear hc
  go_enter Try.func26, Try.ntmps26
  go_wp2
  go_loopw [8, 5] (fun v8 v5 wr => ∃ i : Nat, i ≤ 3 ∧ v8 = .int .i64 i ∧ Hid (wr = w) ∧ Hid (∀ j, j < i → X j = 0)) (fun v8 v5 _ => 3 - (intOf v8).toNat)
  case atStart => exact ⟨0, by decide, rfl, (rfl : _ = _), fun j hj => absurd hj (by omega)⟩
  case round =>
    obtain ⟨i, hi, rfl, hw, HZ⟩ := hrel
    have hw := hw.out
    subst hw
    by_cases hlt : i < 3
    · have lj : (i : Int) < 3 := by omega
      have ci := HC.out i hlt
      obtain ⟨x, hx⟩ : ∃ x, X i = x := ⟨_, rfl⟩
      rw [hx] at ci
      have HX : Hid _ := hx
      clear hx
      by_cases h0 : x = 0
      · subst h0
        go_wp2
        go_roundw
        case rel => exact ⟨i + 1, by omega, by go_num, (trivial : True), fun j hj => by by_cases e : j = i; (rw [e]; exact HX.out); exact HZ.out j (by omega)⟩
        case measure => simp [intOf] <;> omega
      · go_wp2
        go_ret
        refine ⟨?_, rfl⟩
        have hz := HZ.out
        have hx := HX.out
        have e : orN X = x := by
          unfold orN
          have : i = 0 ∨ i = 1 ∨ i = 2 := by omega
          rcases this with rfl | rfl | rfl
          · rw [if_pos (by rw [hx]; exact h0), hx]
          · rw [if_neg (by rw [hz 0 (by decide)]; simp), if_pos (by rw [hx]; exact h0), hx]
          · rw [if_neg (by rw [hz 0 (by decide)]; simp), if_neg (by rw [hz 1 (by decide)]; simp), hx]
        rw [e]
        rfl
    · obtain rfl : i = 3 := by omega
      have hz := HZ.out
      have e : orN X = 0 := by
        unfold orN
        rw [if_neg (by rw [hz 0 (by decide)]; simp), if_neg (by rw [hz 1 (by decide)]; simp), hz 2 (by decide)]
      have HE : Hid _ := e
      clear e hz
      go_wp2
      go_ret
      refine ⟨?_, rfl⟩
      rw [HE.out]
      rfl
/-- may one be taken right behind another? -/
def mf (p q : Pa) (g : Int) : Bool := decide (p.to' + (if p.st = q.st then 0 else g) ≤ q.fr)
set_option maxHeartbeats 4000000 in
theorem mayFollow_any (p q : Pa) (g : Int) (w : World) (hp : p.to' ≤ 1000000 ∧ 0 ≤ p.to') (hg : 0 ≤ g ∧ g ≤ 1000) : Calls Try.prog 23 #[.agg p.arr, .agg q.arr, .int .i64 g] w fun e w' => e = .returned (.bool (mf p q g)) ∧ w.grownBy w' none := by
  obtain ⟨p0, p1, p2, p3⟩ := p
  obtain ⟨q0, q1, q2, q3⟩ := q
  have g1 := World.grownBy_alloc w (.cells (Pa.arr ⟨p0, p1, p2, p3⟩) 29) none
  have g2 := World.grownBy_alloc (w.alloc (.cells (Pa.arr ⟨p0, p1, p2, p3⟩) 29)) (.cells (Pa.arr ⟨q0, q1, q2, q3⟩) 29) none
  have G := grown_trans g1 g2
  unfold mf
  dsimp only [Pa.arr] at *
  by_cases h1 : p0 = q0
  · rw [if_pos h1, Int.add_zero]
    subst h1
    by_cases h2 : p2 ≤ q1
    · rw [decide_eq_true h2]
      go_enter Try.func23, Try.ntmps23
      go_wp2
      go_ret
      exact ⟨rfl, G⟩
    · rw [decide_eq_false h2]
      go_enter Try.func23, Try.ntmps23
      go_wp2
      go_ret
      exact ⟨rfl, G⟩
  · rw [if_neg h1]
    by_cases h2 : p2 + g ≤ q1
    · rw [decide_eq_true h2]
      go_enter Try.func23, Try.ntmps23
      go_wp2
      go_ret
      exact ⟨rfl, G⟩
    · rw [decide_eq_false h2]
      go_enter Try.func23, Try.ntmps23
      go_wp2
      go_ret
      exact ⟨rfl, G⟩
end

section
/-- a row of passes: the places, the worth -/
abbrev Rv := List Nat × Int
def hdP (r : Rv) : Nat := r.1.headD 0
def btX (a b : Rv) (j : Nat) : Int := if j = 0 then cN b.2 a.2 else if j = 1 then cN (a.1.length : Int) (b.1.length : Int) else cN (hdP a : Int) (hdP b : Int)
/-- is a row to be taken rather than another? -/
def btB (a b : Rv) : Bool := decide (orN (btX a b) < 0)
/-- the best one of those that may be -/
def topF (may : Nat → Bool) (Rs : List Rv) (t : Rv) : Rv := Rs.foldl (fun t r => if (may (hdP r) && btB r t) = true then r else t) t
theorem top_app (may : Nat → Bool) (Rs : List Rv) (r t : Rv) : topF may (Rs ++ [r]) t = if (may (hdP r) && btB r (topF may Rs t)) = true then r else topF may Rs t := by
  unfold topF
  rw [List.foldl_append]
  rfl
theorem top_cases (may : Nat → Bool) : ∀ (Rs : List Rv) (t : Rv), topF may Rs t = t ∨ (topF may Rs t ∈ Rs ∧ may (hdP (topF may Rs t)) = true) := by
  intro Rs
  induction Rs with
  | nil => intro t; exact .inl rfl
  | cons r Rs ih =>
    intro t
    show topF may Rs (if (may (hdP r) && btB r t) = true then r else t) = t ∨ _ ∈ r :: Rs ∧ _
    by_cases c : (may (hdP r) && btB r t) = true
    · have e : topF may (r :: Rs) t = topF may Rs r := by show topF may Rs (if _ then r else t) = _; rw [if_pos c]
      rw [e, if_pos c]
      rcases ih r with h | h
      · rw [h]
        exact .inr ⟨List.mem_cons_self .., (Bool.and_eq_true_iff.1 c).1⟩
      · exact .inr ⟨List.mem_cons_of_mem _ h.1, h.2⟩
    · have e : topF may (r :: Rs) t = topF may Rs t := by show topF may Rs (if _ then r else t) = _; rw [if_neg c]
      rw [e, if_neg c]
      rcases ih t with h | h
      · exact .inl h
      · exact .inr ⟨List.mem_cons_of_mem _ h.1, h.2⟩
section
variable (F : Nat → Pa) (g : Int)
/-- the best row that begins with i -/
def nwR (Rs : List Rv) (i : Nat) : Rv := (i :: (topF (fun p => mf (F i) (F p) g) Rs ([], 0)).1, (F i).wo + (topF (fun p => mf (F i) (F p) g) Rs ([], 0)).2)
def rwF (O : List Nat) : List Rv := O.foldl (fun Rs i => Rs ++ [nwR F g Rs i]) []
theorem rw_app (O : List Nat) (i : Nat) : rwF F g (O ++ [i]) = rwF F g O ++ [nwR F g (rwF F g O) i] := by
  unfold rwF
  rw [List.foldl_append]
  rfl
def bestV (O : List Nat) : Rv := topF (fun _ => true) (rwF F g O) ([], 0)
/-- passes that may be taken one behind the other -/
def Ch : List Nat → Prop
  | [] => True
  | [_] => True
  | a :: b :: L => mf (F a) (F b) g = true ∧ Ch (b :: L)
def sumW : List Nat → Int
  | [] => 0
  | a :: L => (F a).wo + sumW L
structure RowOk (O : List Nat) (r : Rv) : Prop where
  ch : Ch F g r.1
  su : sumW F r.1 = r.2
  ins : ∀ p, p ∈ r.1 → p ∈ O
theorem ok_nil (O : List Nat) : RowOk F g O ([], 0) := ⟨trivial, rfl, fun p h => by cases h⟩
theorem snoc_ind {P : List Nat → Prop} (h0 : P []) (h1 : ∀ O i, P O → P (O ++ [i])) : ∀ O, P O := by
  intro O
  have h : ∀ n (O : List Nat), O.length = n → P O := by
    intro n
    induction n with
    | zero => intro O h; rw [List.length_eq_zero_iff.1 h]; exact h0
    | succ n ih =>
      intro O h
      have hne : O ≠ [] := fun e => by rw [e] at h; cases h
      rw [← List.dropLast_concat_getLast hne]
      exact h1 _ _ (ih _ (by rw [List.length_dropLast]; omega))
  exact h _ O rfl
theorem rows_ok : ∀ O r, r ∈ rwF F g O → RowOk F g O r ∧ r.1 ≠ [] ∧ hdP r ∈ O := by
  refine snoc_ind (fun r h => by cases h) ?_
  intro O i ih r hr
  rw [rw_app] at hr
  rcases List.mem_append.1 hr with h | h
  · obtain ⟨k1, k2, k3⟩ := ih r h
    exact ⟨⟨k1.ch, k1.su, fun p hp => List.mem_append_left _ (k1.ins p hp)⟩, k2, List.mem_append_left _ k3⟩
  · rw [List.mem_singleton.1 h]
    have hm : i ∈ O ++ [i] := List.mem_append_right _ (List.mem_singleton.2 rfl)
    have ht : RowOk F g O (topF (fun p => mf (F i) (F p) g) (rwF F g O) ([], 0)) := by
      rcases top_cases (fun p => mf (F i) (F p) g) (rwF F g O) ([], 0) with e | ⟨e, _⟩
      · rw [e]; exact ok_nil F g O
      · exact (ih _ e).1
    refine ⟨⟨?_, ?_, ?_⟩, (fun e => by cases e), hm⟩
    · rcases top_cases (fun p => mf (F i) (F p) g) (rwF F g O) ([], 0) with e | ⟨e, e2⟩
      · unfold nwR
        rw [e]
        trivial
      · obtain ⟨k1, k2, k3⟩ := ih _ e
        unfold nwR
        generalize topF (fun p => mf (F i) (F p) g) (rwF F g O) ([], 0) = t at *
        obtain ⟨L, w⟩ := t
        cases L with
        | nil => exact absurd rfl k2
        | cons b L => exact ⟨e2, k1.ch⟩
    · show (F i).wo + sumW F _ = _
      rw [ht.su]
      rfl
    · intro p hp
      rcases List.mem_cons.1 hp with e | e
      · rw [e]; exact hm
      · exact List.mem_append_left _ (ht.ins p e)
theorem mf_fr {p q : Pa} (hp : p.fr < p.to') (hg : 0 ≤ g) (h : mf p q g = true) : p.fr < q.fr := by
  have h := of_decide_eq_true h
  split at h <;> omega
end
end

section
theorem bt_iff (a b : Rv) : btB a b = true ↔ b.2 < a.2 ∨ (a.2 = b.2 ∧ (a.1.length < b.1.length ∨ (a.1.length = b.1.length ∧ hdP a < hdP b))) := by
  have e0 : btX a b 0 = cN b.2 a.2 := rfl
  have e1 : btX a b 1 = cN (a.1.length : Int) (b.1.length : Int) := rfl
  have e2 : btX a b 2 = cN (hdP a : Int) (hdP b : Int) := rfl
  unfold btB orN
  rw [decide_eq_true_iff, e0, e1, e2]
  unfold cN
  by_cases h1 : b.2 < a.2
  · rw [if_pos h1, if_pos (by decide)]
    exact ⟨fun _ => .inl h1, fun _ => by decide⟩
  · rw [if_neg h1]
    by_cases h2 : a.2 < b.2
    · rw [if_pos h2, if_pos (by decide)]
      exact ⟨fun h => absurd h (by decide), fun h => by omega⟩
    · rw [if_neg h2, if_neg (by simp)]
      by_cases h3 : (a.1.length : Int) < (b.1.length : Int)
      · rw [if_pos h3, if_pos (by decide)]
        exact ⟨fun _ => .inr ⟨by omega, .inl (by omega)⟩, fun _ => by decide⟩
      · rw [if_neg h3]
        by_cases h4 : (b.1.length : Int) < (a.1.length : Int)
        · rw [if_pos h4, if_pos (by decide)]
          exact ⟨fun h => absurd h (by decide), fun h => by omega⟩
        · rw [if_neg h4, if_neg (by simp)]
          by_cases h5 : (hdP a : Int) < (hdP b : Int)
          · rw [if_pos h5]
            exact ⟨fun _ => .inr ⟨by omega, .inr ⟨by omega, by omega⟩⟩, fun _ => by decide⟩
          · rw [if_neg h5]
            by_cases h6 : (hdP b : Int) < (hdP a : Int)
            · rw [if_pos h6]
              exact ⟨fun h => absurd h (by decide), fun h => by omega⟩
            · rw [if_neg h6]
              exact ⟨fun h => absurd h (by decide), fun h => by omega⟩
theorem bt_trans {a b c : Rv} (h1 : btB a b = true) (h2 : btB b c = true) : btB a c = true := by
  rw [bt_iff] at *
  omega
theorem bt_asymm {a b : Rv} (h1 : btB a b = true) (h2 : btB b a = true) : False := by
  rw [bt_iff] at *
  omega
theorem bt_total {a b : Rv} (h : a.1.length ≠ b.1.length ∨ hdP a ≠ hdP b) (h2 : ¬ btB a b = true) : btB b a = true := by
  rw [bt_iff] at *
  omega
/-- T is the best of those that S holds of -/
def Ky (T : Rv) (S : Rv → Prop) : Prop := S T ∧ ∀ r, S r → r = T ∨ btB T r = true
theorem Ky.one {T T' : Rv} {S : Rv → Prop} (h : Ky T S) (h' : Ky T' S) : T = T' := by
  rcases h.2 T' h'.1 with e | e
  · exact e.symm
  · rcases h'.2 T h.1 with e2 | e2
    · exact e2
    · exact (bt_asymm e e2).elim
theorem Ky.congr {T : Rv} {S S' : Rv → Prop} (h : Ky T S) (e : ∀ r, S r ↔ S' r) : Ky T S' := ⟨(e T).1 h.1, fun r hr => h.2 r ((e r).2 hr)⟩
theorem snoc_indR {P : List Rv → Prop} (h0 : P []) (h1 : ∀ O i, P O → P (O ++ [i])) : ∀ O, P O := by
  intro O
  have h : ∀ n (O : List Rv), O.length = n → P O := by
    intro n
    induction n with
    | zero => intro O h; rw [List.length_eq_zero_iff.1 h]; exact h0
    | succ n ih =>
      intro O h
      have hne : O ≠ [] := fun e => by rw [e] at h; cases h
      rw [← List.dropLast_concat_getLast hne]
      exact h1 _ _ (ih _ (by rw [List.length_dropLast]; omega))
  exact h _ O rfl
theorem top_key (may : Nat → Bool) : ∀ Rs : List Rv, Rs.Pairwise (fun a b => hdP a ≠ hdP b) → (∀ r, r ∈ Rs → r.1 ≠ []) → Ky (topF may Rs ([], 0)) (fun r => r = ([], 0) ∨ (r ∈ Rs ∧ may (hdP r) = true)) := by
  refine snoc_indR (fun _ _ => ⟨.inl rfl, fun r h => ?_⟩) ?_
  · rcases h with h | ⟨h, _⟩
    · exact .inl h
    · cases h
  · intro Rs q ih hp hn
    have hp1 := (List.pairwise_append.1 hp).1
    have hpq : ∀ a, a ∈ Rs → hdP a ≠ hdP q := fun a ha => (List.pairwise_append.1 hp).2.2 a ha q (List.mem_singleton.2 rfl)
    have hqn : q.1 ≠ [] := hn q (List.mem_append_right _ (List.mem_singleton.2 rfl))
    obtain ⟨k1, k2⟩ := ih hp1 (fun r hr => hn r (List.mem_append_left _ hr))
    rw [top_app]
    generalize topF may Rs ([], 0) = T at *
    by_cases c : (may (hdP q) && btB q T) = true
    · rw [if_pos c]
      obtain ⟨c1, c2⟩ := Bool.and_eq_true_iff.1 c
      have go : ∀ r, r = T ∨ btB T r = true → btB q r = true := fun r h => by
        rcases h with h | h
        · rw [h]; exact c2
        · exact bt_trans c2 h
      refine ⟨.inr ⟨List.mem_append_right _ (List.mem_singleton.2 rfl), c1⟩, fun r hr => ?_⟩
      rcases hr with h | ⟨h, hm⟩
      · exact .inr (go r (k2 r (.inl h)))
      · rcases List.mem_append.1 h with h | h
        · exact .inr (go r (k2 r (.inr ⟨h, hm⟩)))
        · exact .inl (List.mem_singleton.1 h)
    · rw [if_neg c]
      refine ⟨?_, fun r hr => ?_⟩
      · rcases k1 with h | ⟨h, hm⟩
        · exact .inl h
        · exact .inr ⟨List.mem_append_left _ h, hm⟩
      · rcases hr with h | ⟨h, hm⟩
        · exact k2 r (.inl h)
        · rcases List.mem_append.1 h with h | h
          · exact k2 r (.inr ⟨h, hm⟩)
          · have e := List.mem_singleton.1 h
            subst e
            rw [hm, Bool.true_and] at c
            refine .inr (bt_total ?_ c)
            rcases k1 with h9 | ⟨h9, _⟩
            · left
              rw [h9]
              intro e
              exact hqn (List.length_eq_zero_iff.1 e)
            · right
              exact fun e => hpq T h9 e.symm
section
variable (F : Nat → Pa) (g : Int)
theorem rows_heads : ∀ O : List Nat, (rwF F g O).map hdP = O := by
  refine snoc_ind rfl ?_
  intro O i ih
  rw [rw_app, List.map_append, ih]
  rfl
theorem rows_pair {O : List Nat} (hn : O.Nodup) : (rwF F g O).Pairwise (fun a b => hdP a ≠ hdP b) := by
  have h := rows_heads F g O
  have h2 : ((rwF F g O).map hdP).Pairwise (· ≠ ·) := by rw [h]; exact hn
  exact List.pairwise_map.1 h2
/-- R tells, of each place, the best row that begins with it -/
def RowsOf (n : Nat) (R : Nat → Rv) : Prop := ∀ i, i < n → ∃ T : Rv, Ky T (fun r => r = ([], 0) ∨ ∃ j, j < n ∧ mf (F i) (F j) g = true ∧ r = R j) ∧ R i = (i :: T.1, (F i).wo + T.2)
/-- there is one R alone -/
theorem rows_one (hF : ∀ i, (F i).fr < (F i).to') (hg : 0 ≤ g) {n : Nat} {R R' : Nat → Rv} (h : RowsOf F g n R) (h' : RowsOf F g n R') (hb : ∃ M : Int, ∀ i, i < n → (F i).fr ≤ M) : ∀ i, i < n → R i = R' i := by
  obtain ⟨M, hM⟩ := hb
  have key : ∀ (d : Nat) (i : Nat), i < n → M - (F i).fr ≤ (d : Int) → R i = R' i := by
    intro d
    induction d with
    | zero =>
      intro i hi hd
      obtain ⟨T, k1, k2⟩ := h i hi
      obtain ⟨T', k1', k2'⟩ := h' i hi
      have e : T = T' := (k1.congr (fun r => by
        constructor
        · rintro (e | ⟨j, hj, hm, e⟩)
          · exact .inl e
          · have h1 := mf_fr g (hF i) hg hm
            have h2 := hM j hj
            omega
        · rintro (e | ⟨j, hj, hm, e⟩)
          · exact .inl e
          · have h1 := mf_fr g (hF i) hg hm
            have h2 := hM j hj
            omega)).one k1'
      rw [k2, k2', e]
    | succ d ih =>
      intro i hi hd
      obtain ⟨T, k1, k2⟩ := h i hi
      obtain ⟨T', k1', k2'⟩ := h' i hi
      have e : T = T' := (k1.congr (fun r => by
        constructor
        · rintro (e | ⟨j, hj, hm, e⟩)
          · exact .inl e
          · have h1 := mf_fr g (hF i) hg hm
            exact .inr ⟨j, hj, hm, by rw [e]; exact ih j hj (by omega)⟩
        · rintro (e | ⟨j, hj, hm, e⟩)
          · exact .inl e
          · have h1 := mf_fr g (hF i) hg hm
            exact .inr ⟨j, hj, hm, by rw [e]; exact (ih j hj (by omega)).symm⟩)).one k1'
      rw [k2, k2', e]
  intro i hi
  exact key (M - (F i).fr).toNat i hi (by omega)
theorem rw_prefix (O1 : List Nat) : ∀ L : List Nat, ∃ Y, rwF F g (O1 ++ L) = rwF F g O1 ++ Y := by
  refine snoc_ind ⟨[], by rw [List.append_nil, List.append_nil]⟩ ?_
  intro L i ih
  obtain ⟨Y, hY⟩ := ih
  exact ⟨Y ++ [nwR F g (rwF F g (O1 ++ L)) i], by rw [← List.append_assoc, rw_app, hY, List.append_assoc]⟩
theorem rows_split : ∀ O r, r ∈ rwF F g O → ∃ O1 O2 i, O = O1 ++ i :: O2 ∧ r = nwR F g (rwF F g O1) i := by
  refine snoc_ind (fun r h => by cases h) ?_
  intro O i ih r hr
  rw [rw_app] at hr
  rcases List.mem_append.1 hr with h | h
  · obtain ⟨O1, O2, j, e1, e2⟩ := ih r h
    exact ⟨O1, O2 ++ [i], j, by rw [e1, List.append_assoc]; rfl, e2⟩
  · exact ⟨O, [], i, rfl, List.mem_singleton.1 h⟩
/-- the row that begins with a place -/
def rowAt (O : List Nat) (i : Nat) : Rv := ((rwF F g O).find? (fun r => hdP r == i)).getD ([], 0)
theorem row_at {O : List Nat} (hn : O.Nodup) {r : Rv} (hr : r ∈ rwF F g O) : rowAt F g O (hdP r) = r := by
  unfold rowAt
  cases e : (rwF F g O).find? (fun q => hdP q == hdP r) with
  | none =>
    have := List.find?_eq_none.1 e r hr
    simp at this
  | some q =>
    have h1 := List.mem_of_find?_eq_some e
    have h2 : hdP q = hdP r := by simpa using List.find?_some e
    show q = r
    by_cases hq : q = r
    · exact hq
    · obtain ⟨a, ha⟩ := List.getElem?_of_mem h1
      obtain ⟨b, hb⟩ := List.getElem?_of_mem hr
      have hh := rows_heads F g O
      have ha2 : O[a]? = some (hdP q) := by rw [← hh, List.getElem?_map, ha]; rfl
      have hb2 : O[b]? = some (hdP r) := by rw [← hh, List.getElem?_map, hb]; rfl
      rw [h2] at ha2
      have hab : a = b := by
        obtain ⟨hal, ea⟩ := List.getElem?_eq_some_iff.1 ha2
        obtain ⟨hbl, eb⟩ := List.getElem?_eq_some_iff.1 hb2
        rcases Nat.lt_trichotomy a b with h | h | h
        · exact absurd (ea.trans eb.symm) ((List.pairwise_iff_getElem.1 hn) a b hal hbl h)
        · exact h
        · exact absurd (eb.trans ea.symm) ((List.pairwise_iff_getElem.1 hn) b a hbl hal h)
      rw [hab, hb] at ha
      exact (Option.some.inj ha).symm
theorem row_mem {O : List Nat} {i : Nat} (hi : i ∈ O) : ∃ r, r ∈ rwF F g O ∧ hdP r = i := by
  rw [← rows_heads F g O] at hi
  obtain ⟨r, h1, h2⟩ := List.mem_map.1 hi
  exact ⟨r, h1, h2⟩
/-- what Choose reckons are the rows -/
theorem rows_are (hF : ∀ i, (F i).fr < (F i).to') (hg : 0 ≤ g) {n : Nat} {O : List Nat} (hn : O.Nodup) (hm : ∀ p, p ∈ O ↔ p < n) (hp : O.Pairwise (fun a b => (F b).fr ≤ (F a).fr)) : RowsOf F g n (rowAt F g O) := by
  intro i hi
  obtain ⟨r, hr, hri⟩ := row_mem F g ((hm i).2 hi)
  obtain ⟨O1, O2, j, e1, e2⟩ := rows_split F g O r hr
  have hj : j = i := by rw [← hri, e2]; rfl
  subst hj
  have hn1 : O1.Nodup := by rw [e1] at hn; exact (List.nodup_append.1 hn).1
  have hk := top_key (fun p => mf (F j) (F p) g) (rwF F g O1) (rows_pair F g hn1) (fun q hq => (rows_ok F g O1 q hq).2.1)
  obtain ⟨Y, hY⟩ := rw_prefix F g O1 (j :: O2)
  rw [← e1] at hY
  refine ⟨_, hk.congr (fun q => ?_), ?_⟩
  · constructor
    · rintro (e | ⟨h1, h2⟩)
      · exact .inl e
      · have hq : q ∈ rwF F g O := by rw [hY]; exact List.mem_append_left _ h1
        have hqn : hdP q < n := (hm _).1 (rows_ok F g O q hq).2.2
        exact .inr ⟨hdP q, hqn, h2, (row_at F g hn hq).symm⟩
    · rintro (e | ⟨k, hk1, hk2, e⟩)
      · exact .inl e
      · have h1 := mf_fr g (hF j) hg hk2
        have hkO : k ∈ O1 := by
          have h2 := (hm k).2 hk1
          rw [e1] at h2 hp
          rcases List.mem_append.1 h2 with h3 | h3
          · exact h3
          · rcases List.mem_cons.1 h3 with h4 | h4
            · rw [h4] at h1; omega
            · have h5 := (List.pairwise_cons.1 (List.pairwise_append.1 hp).2.1).1 k h4
              omega
        obtain ⟨q', hq1, hq2⟩ := row_mem F g hkO
        have hq3 : q' ∈ rwF F g O := by rw [hY]; exact List.mem_append_left _ hq1
        have hq4 := row_at F g hn hq3
        rw [hq2] at hq4
        rw [e, hq4]
        exact .inr ⟨hq1, by rw [hq2]; exact hk2⟩
  · have h9 := row_at F g hn hr
    rw [hri] at h9
    rw [h9, e2]
    rfl
theorem best_is {n : Nat} {O : List Nat} (hn : O.Nodup) (hm : ∀ p, p ∈ O ↔ p < n) : Ky (bestV F g O) (fun r => r = ([], 0) ∨ ∃ j, j < n ∧ r = rowAt F g O j) := by
  have hk := top_key (fun _ => true) (rwF F g O) (rows_pair F g hn) (fun q hq => (rows_ok F g O q hq).2.1)
  refine hk.congr (fun q => ?_)
  constructor
  · rintro (e | ⟨h1, _⟩)
    · exact .inl e
    · exact .inr ⟨hdP q, (hm _).1 (rows_ok F g O q h1).2.2, (row_at F g hn h1).symm⟩
  · rintro (e | ⟨j, hj, e⟩)
    · exact .inl e
    · obtain ⟨r, h1, h2⟩ := row_mem F g ((hm j).2 hj)
      have h3 := row_at F g hn h1
      rw [h2] at h3
      rw [e, h3]
      exact .inr ⟨h1, rfl⟩
end
end
end Go.Proofs.Ytpcejajijaphbaa
