import Derived.Test.YtnnohgllnfmoeaaPBk1
import Derived.Test.YtnnohgllnfmoeaaPDec
import Derived.Deep.DeepAppendWide
namespace Go.Proofs.Ytnnohgllnfmoeaa
open Go.RowKit
set_option maxRecDepth 100000
set_option linter.unusedVariables false
set_option linter.unusedSimpArgs false

/-! packets one behind the other -/
def enP (p : Pk) : List Nat := encP p.up p.se p.ap p.pt p.ct p.D
abbrev okP (p : Pk) : Prop := mayE p.ap p.pt p.ct p.D.length = 0
def gdP (F : Nat → Pk) : Nat → List Pk
  | 0 => []
  | k + 1 => if okP (F k) then gdP F k ++ [F k] else gdP F k
def flB (ps : List Pk) : List Nat := ps.flatMap enP
theorem flB_add (ps : List Pk) (p : Pk) : flB (ps ++ [p]) = flB ps ++ enP p := by simp [flB]
theorem flB_cons (p : Pk) (ps : List Pk) : flB (p :: ps) = enP p ++ flB ps := by simp [flB]
theorem enP_len (p : Pk) (h : okP p) : (enP p).length = p.D.length + 6 := by
  unfold enP encP
  rw [if_pos h, List.length_append, hdL_len]; omega
theorem okP_len (p : Pk) (h : okP p) : 1 ≤ p.D.length ∧ p.D.length ≤ 65536 := (mayE_ok h).2
theorem gdP_ok (F : Nat → Pk) (k : Nat) : ∀ p, p ∈ gdP F k → okP p ∧ ∃ i, i < k ∧ p = F i := by
  induction k with
  | zero => intro p h; cases h
  | succ k ih =>
    intro p h
    by_cases ho : okP (F k)
    · rw [show gdP F (k + 1) = gdP F k ++ [F k] from if_pos ho] at h
      rcases List.mem_append.1 h with h | h
      · obtain ⟨h1, i, hi, e⟩ := ih p h
        exact ⟨h1, i, by omega, e⟩
      · have e : p = F k := by simpa using h
        exact ⟨by rw [e]; exact ho, k, by omega, e⟩
    · rw [show gdP F (k + 1) = gdP F k from if_neg ho] at h
      obtain ⟨h1, i, hi, e⟩ := ih p h
      exact ⟨h1, i, by omega, e⟩
theorem gdP_len (F : Nat → Pk) (k : Nat) : (gdP F k).length ≤ k := by
  induction k with
  | zero => exact Nat.le_refl _
  | succ k ih =>
    by_cases ho : okP (F k)
    · rw [show gdP F (k + 1) = gdP F k ++ [F k] from if_pos ho, List.length_append]; simp; exact ih
    · rw [show gdP F (k + 1) = gdP F k from if_neg ho]; omega
theorem flB_le (ps : List Pk) (h : ∀ p, p ∈ ps → okP p) : (flB ps).length ≤ ps.length * 65542 := by
  induction ps with
  | nil => exact Nat.le_refl _
  | cons p ps ih =>
    rw [flB_cons, List.length_append, enP_len p (h p (List.mem_cons_self ..)), List.length_cons]
    have := (okP_len p (h p (List.mem_cons_self ..))).2
    have := ih (fun q hq => h q (List.mem_cons_of_mem _ hq))
    omega
/-- what is left of the row behind k packets -/
def rsP (ps : List Pk) (J : List Nat) (k : Nat) : List Nat := flB (ps.drop k) ++ J
theorem rsP_step (ps : List Pk) (J : List Nat) (k : Nat) (h : k < ps.length) : rsP ps J k = enP ps[k] ++ rsP ps J (k + 1) := by
  unfold rsP
  rw [List.drop_eq_getElem_cons h, flB_cons, List.append_assoc]
theorem rsP_drop (ps : List Pk) (J : List Nat) (k : Nat) (h : k < ps.length) (ho : okP ps[k]) : (rsP ps J k).drop (ps[k].D.length + 6) = rsP ps J (k + 1) := by
  rw [rsP_step ps J k h, ← enP_len _ ho, List.drop_left]
theorem rsP_end (ps : List Pk) (J : List Nat) : rsP ps J ps.length = J := by
  unfold rsP
  rw [List.drop_length]; rfl
theorem rsP_len (ps : List Pk) (J : List Nat) (k : Nat) (h : k < ps.length) (ho : okP ps[k]) : (rsP ps J k).length = ps[k].D.length + 6 + (rsP ps J (k + 1)).length := by
  rw [rsP_step ps J k h, List.length_append, enP_len _ ho]
/-- rows of bytes and of packets never share a block -/
theorem apart_bp {w : World} {lo lo' : Nat} {a b : Option Addr} {n m cap cap' : Nat} {L : List Nat} {ps : List Pk} (h : Ans w lo a n cap L) (k : OwP w lo' b m cap' ps) :
    (Value.slice a n cap).ownBlock = none ∨ (Value.slice a n cap).ownBlock ≠ (Value.slice b m cap').ownBlock := by
  rcases h.own.2 with ⟨h1, h2⟩ | ⟨g, c1, cur, h1, _, h3, _⟩
  · simp only [Value.slice.injEq] at h1
    obtain ⟨rfl, rfl, rfl⟩ := h1
    exact .inl rfl
  · simp only [Value.slice.injEq] at h1
    obtain ⟨rfl, _, _⟩ := h1
    refine .inr fun e => ?_
    rcases k.own.2 with ⟨k1, k2⟩ | ⟨g', c2, cur', k1, _, k3, _⟩
    · simp only [Value.slice.injEq] at k1
      obtain ⟨rfl, rfl, rfl⟩ := k1
      simp [Value.ownBlock] at e
    · simp only [Value.slice.injEq] at k1
      obtain ⟨rfl, _, _⟩ := k1
      have e' : g = g' := Option.some.inj e
      subst e'
      rw [h3] at k3
      have := Option.some.inj k3
      injection this with _ ht
      exact absurd ht (by decide)

theorem RdP.keep {w w' : World} {a : Option Addr} {n cap : Nat} {F : Nat → Pk} (h : RdP w a n cap F) (hg : w.grownBy w' none) : RdP w' a n cap F :=
  ⟨h.le, h.max, fun h0 => by
    obtain ⟨b, off, e, hb, hc⟩ := h.at' h0
    refine ⟨b, off, e, Nat.lt_of_lt_of_le hb hg.size, fun i hi j hj => ?_⟩
    rw [← hc i hi j hj]
    unfold World.cell?
    rw [hg.block b hb (by simp)], fun i hi => (h.data i hi).keep hg⟩
theorem Ans.up {w : World} {lo : Nat} {a : Option Addr} {n cap : Nat} {L : List Nat} (h : Ans w lo a n cap L) : w.ownsRow lo 5 1 (.slice a n cap) n (bys L) := by
  refine ⟨h.own.1, ?_⟩
  rcases h.own.2 with h1 | ⟨g, c1, cur, h1, h2, h3⟩
  · exact .inl h1
  · refine .inr ⟨g, c1, cur, h1, ?_, h3⟩
    simp only [Value.slice.injEq] at h1
    obtain ⟨rfl, _, _⟩ := h1
    exact h.new g rfl
/-- 'append(v, x...)', v an answer, x whatever bytes -/
theorem wpList_joinZ {w : World} {ops : Array Oper} {rest : List Oper} {o : Oper} {a : Act} {Q : Exit → Act → World → Prop} (hg : o.guard = none) (s x : Operand)
    (hop : o.op = Op.call { callee := .builtin .append, args := #[s, x], argTypes := #[22, 22] }) (ao : Option Addr) (m co lo : Nat) (D : List Nat) (hs : a.eval s = .slice ao m co)
    (hA : Ans w lo ao m co D) (hlo : lo ≤ w.heap.size) (ax : Option Addr) (nx cx : Nat) (X : List Nat) (hx : a.eval x = .slice ax nx cx) (hR : Rd w ax nx cx X) (hb : m + nx ≤ 200000000000000)
    (hK : ∀ a' c' w', Ans w' lo a' (m + nx) c' (D ++ X) → w.grownBy w' (Value.slice ao m co).ownBlock → wpList Try.prog ops Q rest (a.put o.dst (.slice a' (m + nx) c')) w') :
    wpList Try.prog ops Q (o :: rest) a w := by
  obtain ⟨i0, hi, hz0, hz1, hz2⟩ := info_parts Try.info_u8
  cases ax with
  | none =>
    have hc0 : cx = 0 := hR.nil rfl
    have hn0 : nx = 0 := by have := hR.le; omega
    subst hc0 hn0
    have e : X = [] := List.eq_nil_of_length_eq_zero hR.len
    subst e
    refine wpList_append_own_none hg s x 22 hop 0 5 i0 1 Try.underlying22 hi (.slice ao m co) m (bys D) hs hA.own hx ?_
    exact hK ao co w (by rw [List.append_nil]; exact hA) (World.grownBy.refl _ _)
  | some ad =>
    refine wpList_append_own_wide w hg s x 22 hop lo 5 i0 (.int .u8 0) 1 1 Try.underlying22 hi hz0 hz1 hz2 rfl (by decide) (.slice ao m co) m (bys D) hs hA.up ad nx cx (bys X) hx (by rw [bys_length, hR.len]; omega) ?_ (bys_one _) (by unfold maxLen; omega) (by omega) hlo ?_
    · intro j u hu
      have hj : j < X.length := by
        have := (List.getElem?_eq_some_iff.1 hu).1
        rw [bys_length] at this; exact this
      have h0 : 0 < nx := by rw [hR.len] at hj; omega
      obtain ⟨b, off, e, _, hc⟩ := hR.at' h0
      cases e
      rw [nth_bys X j hj] at hu
      rw [← hu, addr_add]
      exact hc j (by rw [← hR.len]; exact hj)
    · intro v' w' hown hgr _
      rw [bys_app] at hown
      have hown' := hown
      rcases hown.2 with ⟨h1, h2⟩ | ⟨g, c1, cur, h1, h2, h3⟩
      · subst h1
        have e0 : m + nx = 0 := h2
        have hq := hK none 0 w' ⟨by rw [e0]; exact own_base (by rw [e0] at hown'; exact hown'), isB_append hA.byte hR.byte, fun g h => by simp [Value.ownBlock] at h⟩ hgr
        rw [e0] at hq
        exact hq
      · subst h1
        exact hK (some ⟨g, 0, none⟩) c1 w' ⟨own_base hown', isB_append hA.byte hR.byte, fun g' h => by have e : g = g' := Option.some.inj h; omega⟩ hgr
theorem RdP.six {w wz : World} {b off n cap : Nat} {F : Nat → Pk} (h : RdP w (some ⟨b, off, none⟩) n cap F) (hz : w.grownBy wz none) (i : Nat) (hi : i < n) :
    wz.cell? ⟨b, off + i * 6, none⟩ = some (.bool (F i).up) ∧ wz.cell? ⟨b, off + i * 6 + 1, none⟩ = some (.bool (F i).se) ∧ wz.cell? ⟨b, off + i * 6 + 2, none⟩ = some (.int .i64 (F i).ap) ∧ wz.cell? ⟨b, off + i * 6 + 3, none⟩ = some (.int .i64 (F i).pt) ∧ wz.cell? ⟨b, off + i * 6 + 4, none⟩ = some (.int .i64 (F i).ct) ∧ wz.cell? ⟨b, off + i * 6 + 5, none⟩ = some (.slice (F i).a (F i).n (F i).c) := by
  obtain ⟨_, _, e, _, hc⟩ := (h.keep hz).at' (by omega)
  cases e
  exact ⟨hc i hi 0 (by decide), hc i hi 1 (by decide), hc i hi 2 (by decide), hc i hi 3 (by decide), hc i hi 4 (by decide), hc i hi 5 (by decide)⟩
theorem swap_own {x y : Option Nat} (h : x = none ∨ x ≠ y) : y = none ∨ y ≠ x := by
  cases y with
  | none => exact .inl rfl
  | some q =>
    refine .inr fun e => ?_
    rcases h with h | h
    · rw [h] at e; cases e
    · exact h e.symm
theorem rd_from {w : World} {b of nr cr m : Nat} {L : List Nat} (h : Rd w (some ⟨b, of, none⟩) nr cr L) (hm : m ≤ nr) : Rd w (some ⟨b, of + m, none⟩) (nr - m) (cr - m) (L.drop m) := by
  have := h.part m (nr - m) (by omega)
  rwa [List.take_of_length_le (by rw [List.length_drop, h.len]; omega)] at this
theorem rd_from0 {w : World} {b of nr m : Nat} {L : List Nat} (h : Rd w (some ⟨b, of, none⟩) nr m L) (hm : m ≤ nr) : Rd w (some ⟨b, of, none⟩) 0 0 (L.drop m) := by
  have e : L.drop m = [] := List.drop_eq_nil_of_le (by have := h.le; rw [h.len]; omega)
  rw [e]
  exact ⟨rfl, Nat.le_refl _, Nat.zero_le _, fun h => (by cases h), (fun x hx => by cases hx), fun h => absurd h (by decide)⟩
theorem two_newB (w : World) : Rd (w.alloc (.cells #[.int .u8 170, .int .u8 187] 5)) (some ⟨w.heap.size, 0, none⟩) 2 2 [170, 187] := by
  refine Ans.rd (lo := 0) ⟨⟨rfl, .inr ⟨w.heap.size, 2, #[.int .u8 170, .int .u8 187], rfl, Nat.zero_le _, heap_alloc_new w _, Nat.le_refl _, by decide, rfl, rfl⟩⟩, ?_, fun g hg => Nat.zero_le _⟩
  intro x hx
  simp at hx
  omega
theorem strB_one : strB [0, 5, 192, 7, 0, 1, 170, 187] = ⟨#[0, 5, 192, 7, 0, 1, 170, 187]⟩ := by decide
end Go.Proofs.Ytnnohgllnfmoeaa
