import Derived.Test.YtdcfgaibppenaaaDoorSd3
import Derived.Test.YtdcfgaibppenaaaDoorSd2
namespace Go.Proofs.YtdcfgaibppenaaaDoor
open Go.RowKit
set_option maxRecDepth 100000
set_option linter.unusedVariables false
set_option linter.unusedSimpArgs false

section
/-! polynomials whose last number is not nought -/
def Top (P : List Nat) : Prop := 0 < P.length ∧ nth P (P.length - 1) ≠ 0
theorem trimL_exact {A : List Nat} {m : Nat} (h : nth A m ≠ 0) (h0 : ∀ j, m < j → nth A j = 0) : (trimL A).length = m + 1 ∧ Top (trimL A) := by
  have h1 := trimL_short (A := A) (m + 1) (fun j hj => h0 j (by omega))
  have h2 : ¬ (trimL A).length ≤ m := fun hle => h (by rw [← nth_trimL, nth_out _ _ hle])
  have e : (trimL A).length = m + 1 := by omega
  exact ⟨e, by rw [e]; omega, by rw [e, Nat.add_sub_cancel, nth_trimL]; exact h⟩
theorem trim_top (A : List Nat) : trimL A = [] ∨ Top (trimL A) := by
  by_cases h : trimN A A.length = 0
  · exact .inl (List.eq_nil_of_length_eq_zero (by rw [trimL_len]; exact h))
  · exact .inr ⟨by rw [trimL_len]; omega, top_ne A h⟩
theorem top_trim {A : List Nat} (h : Top A) : trimL A = A := by
  have h0 := h.1
  have e := (trimL_exact h.2 (fun j hj => nth_out A j (by omega))).1
  refine list_ext (by omega) fun i hi => nth_trimL A i
theorem top_times {A B : List Nat} (hA : IsB A) (hB : IsB B) (tA : Top A) (tB : Top B) (h1 : A.length ≤ 512) (h2 : B.length ≤ 512) : (timR A B).length = A.length + B.length - 1 ∧ Top (timR A B) := by
  obtain ⟨a0, a1⟩ := tA
  obtain ⟨b0, b1⟩ := tB
  unfold timR
  rw [if_pos ⟨h1, h2⟩]
  have h := trimL_exact (A := timL A B) (m := A.length + B.length - 2) ?_ ?_
  · exact ⟨by rw [h.1]; omega, h.2⟩
  · rw [nth_timL hA hB]
    obtain ⟨a, ha⟩ : ∃ a, A.length = a + 1 := ⟨A.length - 1, by omega⟩
    unfold pc
    rw [ha]
    show xsum _ a ^^^ (if a ≤ a + 1 + B.length - 2 then Fld.mul (nth B (a + 1 + B.length - 2 - a)) (nth A a) else 0) ≠ 0
    rw [xsum_zero a (fun i hi => by rw [if_pos (by omega), nth_out B _ (by omega)]; exact Fld.zero_mul (hA.nth _)), Nat.zero_xor, if_pos (by omega), show a + 1 + B.length - 2 - a = B.length - 1 by omega]
    intro h
    rcases Fld.mul_eq_zero (hB.nth _) (hA.nth _) h with h | h
    · exact b1 h
    · rw [ha, Nat.add_sub_cancel] at a1; exact a1 h
  · intro j hj
    rw [nth_timL hA hB]
    unfold pc
    exact xsum_zero _ (fun i hi => by rw [if_pos (by omega), nth_out B _ (by omega)]; exact Fld.zero_mul (hA.nth _))
theorem top_sum {A B : List Nat} (tB : Top B) (h : A.length < B.length) : (trimL (sumL A B)).length = B.length ∧ Top (trimL (sumL A B)) := by
  obtain ⟨b0, b1⟩ := tB
  have h := trimL_exact (A := sumL A B) (m := B.length - 1) (by rw [nth_sumL, nth_out A _ (by omega), Nat.zero_xor]; exact b1) (fun j hj => by rw [nth_sumL, nth_out A _ (by omega), nth_out B _ (by omega)]; rfl)
  exact ⟨by rw [h.1]; omega, h.2⟩
theorem top_sum' {A B : List Nat} (tA : Top A) (h : B.length < A.length) : (trimL (sumL A B)).length = A.length ∧ Top (trimL (sumL A B)) := by
  obtain ⟨b0, b1⟩ := tA
  have h := trimL_exact (A := sumL A B) (m := A.length - 1) (by rw [nth_sumL, nth_out B _ (by omega), Nat.xor_zero]; exact b1) (fun j hj => by rw [nth_sumL, nth_out A _ (by omega), nth_out B _ (by omega)]; rfl)
  exact ⟨by rw [h.1]; omega, h.2⟩
theorem isB_ovT {P Q : List Nat} (hP : IsB P) (hQ : IsB Q) : IsB (ovT P Q) := by
  unfold ovT; split
  · exact isB_trimL (ovR_isB hP (isB_trimL hQ) _ _)
  · intro x hx; cases hx
theorem top_z {Q : List Nat} (tQ : Top Q) : trimN Q Q.length ≠ 0 := by
  have e := trimL_len Q
  rw [top_trim tQ] at e
  have := tQ.1
  omega
theorem over_top {P Q : List Nat} (hP : IsB P) (hQ : IsB Q) (tP : Top P) (tQ : Top Q) (hle : Q.length ≤ P.length) (h1 : P.length ≤ 512) :
    Top (ovQ P Q) ∧ (ovQ P Q).length = P.length + 1 - Q.length ∧ (ovT P Q).length < Q.length ∧ (ovT P Q = [] ∨ Top (ovT P Q)) := by
  have hz := top_z tQ
  have HR := div_rest hP hQ h1 (by omega) hz
  rw [top_trim tQ] at HR
  have HS := div_sum hP hQ h1 (by omega) hz
  rw [trim_self, top_trim tP] at HS
  have hq := ovQ_small (P := P) hz
  have hT : ovT P Q = [] ∨ Top (ovT P Q) := by rw [ovT_eq h1 (by omega) hz]; exact trim_top _
  have p0 := tP.1
  have hQQ : ovQ P Q = [] ∨ Top (ovQ P Q) := by rw [ovQ_eq h1 (by omega) hz]; exact trim_top _
  rcases hQQ with e | t
  · exfalso
    have h2 := congrArg (fun L => nth L (P.length - 1)) HS
    simp only [nth_trimL, nth_sumL] at h2
    rw [nth_out (ovT P Q) _ (by omega), Nat.xor_zero, e, nth_timR (fun x hx => by cases hx) hQ (by simp) (by omega)] at h2
    exact tP.2 h2.symm
  · obtain ⟨h3, h4⟩ := top_times (isB_ovQ hP hQ) hQ t tQ (by omega) (by omega)
    have t0 := t.1
    have h5 := (top_sum' h4 (B := ovT P Q) (by omega)).1
    rw [HS] at h5
    exact ⟨t, by omega, HR, hT⟩

/-! Euclid's way -/
def euc (c h : Nat) : Nat → List Nat → List Nat → List Nat → List Nat → List Nat × List Nat
  | 0, _, r, _, f => (f, r)
  | k + 1, l, r, b, f => if c + h + 2 ≤ 2 * r.length then euc c h k r (ovT l r) f (trimL (sumL b (timR (ovQ l r) f))) else (f, r)
structure EInv (c h : Nat) (l r b f : List Nat) : Prop where
  bl : IsB l
  br : IsB r
  bb : IsB b
  bf : IsB f
  tl : Top l
  tr : r = [] ∨ Top r
  lt : r.length < l.length
  tf : Top f
  sum : l.length + f.length = c + 2
  lb : b.length < f.length
  big : c + h + 2 ≤ 2 * l.length
theorem EInv.top {c h : Nat} {l r b f : List Nat} (e : EInv c h l r b f) (hr : c + h + 2 ≤ 2 * r.length) : Top r := by
  rcases e.tr with h1 | h1
  · rw [h1] at hr; simp at hr
  · exact h1
theorem EInv.step {c h : Nat} {l r b f : List Nat} (e : EInv c h l r b f) (hc : c ≤ 64) (hr : c + h + 2 ≤ 2 * r.length) : EInv c h r (ovT l r) f (trimL (sumL b (timR (ovQ l r) f))) ∧ (ovT l r).length < r.length := by
  have tr := e.top hr
  have f0 := e.tf.1
  have h0 := e.sum
  have h9 := e.lt
  have r0 := tr.1
  have h10 := e.lb
  obtain ⟨q1, q2, q3, q4⟩ := over_top e.bl e.br e.tl tr (by omega) (by omega)
  obtain ⟨t1, t2⟩ := top_times (isB_ovQ e.bl e.br) e.bf q1 e.tf (by omega) (by omega)
  obtain ⟨s1, s2⟩ := top_sum (A := b) t2 (by omega)
  refine ⟨⟨e.br, isB_ovT e.bl e.br, e.bf, isB_trimL (isB_sumL e.bb (isB_timR (isB_ovQ e.bl e.br) e.bf)), tr, q4, q3, s2, by omega, by omega, hr⟩, q3⟩
theorem euc_inv {c h : Nat} (hc : c ≤ 64) : ∀ (k : Nat) (l r b f : List Nat), EInv c h l r b f → r.length ≤ k → ∃ l' b', EInv c h l' (euc c h k l r b f).2 b' (euc c h k l r b f).1 ∧ 2 * (euc c h k l r b f).2.length < c + h + 2 := by
  intro k
  induction k with
  | zero => intro l r b f e hk; exact ⟨l, b, e, by show 2 * r.length < _; omega⟩
  | succ k ih =>
    intro l r b f e hk
    by_cases hr : c + h + 2 ≤ 2 * r.length
    · obtain ⟨e2, h2⟩ := e.step hc hr
      have := ih _ _ _ _ e2 (by omega)
      simp only [euc, if_pos hr]
      exact this
    · simp only [euc, if_neg hr]
      exact ⟨l, b, e, by omega⟩
theorem euc_start {c h : Nat} {K : List Nat} (hK : IsB K) (tK : K = [] ∨ Top K) (hl : K.length ≤ c) (hh : h ≤ c) : EInv c h (List.replicate c 0 ++ [1]) K [] [1] := by
  have hB : IsB (List.replicate c 0 ++ [1]) := isB_append (isB_zeros _) (fun x hx => by simp at hx; omega)
  refine ⟨hB, hK, (fun x hx => by cases hx), (fun x hx => by simp at hx; omega), ⟨by simp, ?_⟩, tK, by simp; omega, ⟨by simp, by simp [nth]⟩, by simp, by simp, by simp; omega⟩
  unfold nth
  rw [List.getD_eq_getElem?_getD, List.getElem?_append_right (by simp)]
  simp

/-! no more zeros than its degree -/
theorem roots_zero {X : List Nat} (hX : IsB X) (m : Nat) (hd : ∀ i j, j < i → i < m → nth X j ≠ nth X i) (f : Nat → Nat) (hf : ∀ j, f j < 256) (h0 : ∀ j, m ≤ j → f j = 0) (hv : ∀ i, i < m → ev f (m + 1) (nth X i) = 0) : ∀ j, f j = 0 := by
  intro j
  have hY := isB_zeros m
  have h1 := ct_uniq hX hY m hd m (Nat.le_refl _) f hf h0 (fun i hi => by rw [hv i hi, nth_zeros]) j
  have h2 := ct_uniq hX hY m hd m (Nat.le_refl _) (fun _ => 0) (fun _ => by decide) (fun _ _ => rfl) (fun i hi => by
    rw [nth_zeros]
    exact xsum_zero _ (fun k _ => Fld.zero_mul (Fld.pw_lt _ _ (hX.nth i)))) j
  rw [h1, ← h2]
theorem pow2_inj {a b : Int} (h : pow2 a = pow2 b) : a % 255 = b % 255 := by
  unfold pow2 at h
  have ha : (a % 255).toNat < 255 := by omega
  have hb : (b % 255).toNat < 255 := by omega
  rcases Nat.lt_trichotomy (a % 255).toNat (b % 255).toNat with h1 | h1 | h1
  · exact absurd h (Fld.pow_inj h1 hb)
  · omega
  · exact absurd h.symm (Fld.pow_inj h1 ha)
theorem pow2_ne (a : Int) : pow2 a ≠ 0 := Fld.pow_ne_zero _
/-- places of a word of n bytes at which A is nought: no more than A's degree -/
theorem few_roots {A : List Nat} (hA : IsB A) (tA : Top A) (n : Nat) (hn : n ≤ 255) (ps : List Nat) (hps : ps.Pairwise (· < ·)) (hlt : ∀ p ∈ ps, p < n) (hr : ∀ p ∈ ps, atL A (pow2 ((p : Int) + 1 - n)) = 0) : ps.length < A.length := by
  apply Nat.lt_of_not_le
  intro hle
  have hnp : ∀ i (hi : i < ps.length), nth (ps.map fun (p : Nat) => pow2 ((p : Int) + 1 - n)) i = pow2 ((ps[i] : Int) + 1 - n) := by
    intro i hi
    unfold nth
    rw [List.getD_eq_getElem?_getD, List.getElem?_map, List.getElem?_eq_getElem hi]; rfl
  have hX : IsB (ps.map fun (p : Nat) => pow2 ((p : Int) + 1 - n)) := by
    intro x hx
    obtain ⟨p, _, rfl⟩ := List.mem_map.1 hx
    exact pow2_lt _
  have h := roots_zero hX A.length (fun i j hji hi he => by
      rw [hnp i (by omega), hnp j (by omega)] at he
      have h1 := pow2_inj he
      have h2 := List.pairwise_iff_getElem.1 hps j i (by omega) (by omega) hji
      have h3 := hlt _ (List.getElem_mem (h := (by omega : i < ps.length)))
      omega) (nth A) hA.nth (fun j hj => nth_out A j hj) (fun i hi => by
      rw [hnp i (by omega), ← atL_ev hA _ (A.length + 1) (pow2_lt _) (by omega)]
      exact hr _ (List.getElem_mem _)) (A.length - 1)
  exact tA.2 h
end

section
theorem nth_reverse (L : List Nat) (i : Nat) (h : i < L.length) : nth L.reverse i = nth L (L.length - 1 - i) := by
  unfold nth
  rw [List.getD_eq_getElem?_getD, List.getD_eq_getElem?_getD, List.getElem?_reverse h]
theorem isB_reverse {L : List Nat} (h : IsB L) : IsB L.reverse := fun x hx => h x (List.mem_reverse.1 hx)
theorem Ans.set {w : World} {lo g n cap : Nat} {L : List Nat} (h : Ans w lo (some ⟨g, 0, none⟩) n cap L) (j x : Nat) (hx : x < 256) : Ans (w.setCell ⟨g, j, none⟩ (.int .u8 (x : Int))) lo (some ⟨g, 0, none⟩) n cap (L.set j x) :=
  ⟨own_set h.own j x, isB_set h.byte _ _ hx, h.new⟩
theorem Ans.wide {w : World} {lo lo' : Nat} {a : Option Addr} {n cap : Nat} {L : List Nat} (h : Ans w lo a n cap L) (hl : lo' ≤ lo) : Ans w lo' a n cap L := ⟨h.own, h.byte, fun g hg => Nat.le_trans hl (h.new g hg)⟩

/-- slices.Reverse of a row of the call's own -/
theorem reverse_any (g n cap lo : Nat) (L : List Nat) (w : World) (h : Ans w lo (some ⟨g, 0, none⟩) n cap L) (hn : n ≤ 140737488355328) :
    Calls Tryd.prog 43 #[.slice (some ⟨g, 0, none⟩) n cap] w fun e w' => e = .returned (.tuple #[]) ∧ Ans w' lo (some ⟨g, 0, none⟩) n cap L.reverse ∧ w.grownBy w' (some g) := by
  have HL : Hid (L.length = n) := h.len
  go_enter Tryd.func43, Tryd.ntmps43
  go_wp2
  go_loopw [2, 3] (fun i j wr => ∃ (k : Nat) (z : Int), 2 * k ≤ n + 1 ∧ i = .int .i64 k ∧ j = .int .i64 z ∧ z = (n : Int) - 1 - k ∧ w.grownBy wr (some g) ∧ ∃ D, Ans wr lo (some ⟨g, 0, none⟩) n cap D ∧ ∀ p, p < n → nth D p = if p < k ∨ n < p + k + 1 then nth L (n - 1 - p) else nth L p) (fun _ j _ => (intOf j + 1).toNat)
  case atStart =>
    refine ⟨0, (n : Int) - 1, by omega, rfl, rfl, by omega, World.grownBy.refl _ _, L, h, fun p hp => ?_⟩
    rw [if_neg (by omega)]
  case round =>
    obtain ⟨k, z, hk, rfl, rfl, hz, hgr, D, hA, hD⟩ := hrel
    by_cases hlt : (k : Int) < z
    · obtain ⟨j, rfl⟩ := Int.eq_ofNat_of_zero_le (a := z) (by omega)
      have hkn : k < n := by omega
      have hjn : j < n := by omega
      have hkj : k < j := by omega
      have hck := own_cell hA.own k hkn
      have hcj := own_cell hA.own j hjn
      have hfk := hA.own.frozenAt k
      have hbk := hA.byte.nth k
      have hbj := hA.byte.nth j
      have hA1 := hA.set k (nth D j) hbj
      have hfj := hA1.own.frozenAt j
      have hA2 := hA1.set j (nth D k) hbk
      have HZ : Hid ((j : Int) = (n : Int) - 1 - k) := hz
      have HD : Hid (∀ p, p < n → nth D p = if p < k ∨ n < p + k + 1 then nth L (n - 1 - p) else nth L p) := hD
      have HDl : Hid (D.length = n) := hA.len
      clear hz hD
      go_wp2
      go_region
      all_goals
        go_wp2
        go_roundw
        case rel =>
          have e1 := HZ.out
          refine ⟨k + 1, (j : Int) - 1, by omega, by go_num, by go_num, by omega, grown_trans (grown_trans (grown_trans hgr (grown_set _ _ _ _)) (grown_set _ _ _ _)) (grown_drew _ _), _, hA2.kept (grown_drew _ none) (by simp [Value.ownBlock]), fun p hp => ?_⟩
          rw [nth_set _ _ _ _ (by rw [List.length_set, HDl.out]; omega), nth_set _ _ _ _ (by rw [HDl.out]; omega)]
          by_cases e : j = p
          · subst e; rw [if_pos rfl, if_pos (by omega), HD.out k hkn, if_neg (by omega)]; congr 1; omega
          · rw [if_neg e]
            by_cases e2 : k = p
            · subst e2; rw [if_pos rfl, if_pos (by omega), HD.out j hjn, if_neg (by omega)]; congr 1; omega
            · rw [if_neg e2, HD.out p hp]
              by_cases e3 : p < k ∨ n < p + k + 1
              · rw [if_pos e3, if_pos (by omega)]
              · rw [if_neg e3, if_neg (by omega)]
        case measure => first | (simp [intOf]; done) | (simp [intOf]; omega)
    · have HR : Hid (D = L.reverse) := by
        show _ = _
        refine list_ext (by rw [hA.len, List.length_reverse, HL.out]) fun p hp => ?_
        rw [hA.len] at hp
        rw [nth_reverse L p (by rw [HL.out]; exact hp), HL.out, hD p hp]
        by_cases e : p < k ∨ n < p + k + 1
        · rw [if_pos e]
        · rw [if_neg e]; congr 1; omega
      clear hD
      rw [HR.out] at hA
      go_wp2
      go_end0
      exact ⟨rfl, hA, hgr⟩
end

section
/-- 'append(v, x...)', v the call's own and empty -/
theorem wpList_apE (w : World) {ops : Array Oper} {rest : List Oper} {o : Oper} {a : Act} {Q : Exit → Act → World → Prop} (hg : o.guard = none) (s x : Operand)
    (hop : o.op = Op.call { callee := .builtin .append, args := #[s, x], argTypes := #[22, 22] }) (v : Value) (hs : a.eval s = v)
    (hown : w.ownsRow 0 5 1 v 0 []) (ad : Option Addr) (m c : Nat) (L : List Nat) (hx : a.eval x = .slice ad m c) (hR : Rd w ad m c L) (hm : 0 < m) (hb : m ≤ 140737488355328)
    (hK : ∀ g cap w', (v.ownBlock = some g ∨ w.heap.size ≤ g) → w.grownBy w' v.ownBlock → w'.ownsRow 0 5 1 (.slice (some ⟨g, 0, none⟩) m cap) m (bys L) →
      wpList Tryd.prog ops Q rest (a.put o.dst (.slice (some ⟨g, 0, none⟩) m cap)) w') :
    wpList Tryd.prog ops Q (o :: rest) a w := by
  obtain ⟨b, off, rfl, hbw, hc⟩ := hR.at' hm
  refine wpList_apB w hg s x hop v 0 [] hs hown ⟨b, off, none⟩ m c (bys L) hx (by rw [bys_length, hR.len]) ?_ (bys_one L) hm (by omega) ?_
  · intro j u hu
    have hj : j < L.length := by
      have := (List.getElem?_eq_some_iff.1 hu).1
      rw [bys_length] at this; exact this
    rw [nth_bys L j hj] at hu
    rw [← hu, addr_add]
    exact hc j (by rw [← hR.len]; exact hj)
  · intro g cap w' h1 h2 h3
    rw [Nat.zero_add] at h3 ⊢
    exact hK g cap w' h1 h2 (by simpa using h3)
theorem own_none (w : World) : (w.alloc (.cells #[] 5)).ownsRow 0 5 1 (.slice (some ⟨w.heap.size, 0, none⟩) 0 0) 0 [] :=
  ⟨rfl, .inr ⟨_, 0, #[], rfl, Nat.zero_le _, heap_alloc_new w _, Nat.le_refl _, Nat.zero_le _, rfl, rfl⟩⟩
theorem clone_any (ad : Option Addr) (n cap : Nat) (L : List Nat) (w : World) (h : Rd w ad n cap L) (h0 : 0 < n) (hn : n ≤ 140737488355328) :
    Calls Tryd.prog 15 #[.slice ad n cap] w fun e w' => ∃ g c', e = .returned (.slice (some ⟨g, 0, none⟩) n c') ∧ Ans w' w.heap.size (some ⟨g, 0, none⟩) n c' L ∧ w.grownBy w' none := by
  obtain ⟨b, off, rfl, hbw, hc⟩ := h.at' h0
  have h1 := h.keep (World.grownBy_alloc w (.cells #[] 5) none)
  have h2 := own_none w
  go_enter Tryd.func15, Tryd.ntmps15
  go_wp2_with (first | (rw [Lib.run_eql_slice_nil (h := Tryd.underlying22)]) | (at_builtin; refine wpList_apE _ rfl (.tmp 5) (.tmp 6) rfl _ rfl h2 _ n cap L rfl h1 h0 hn ?_; intro g c' w2 hg hgr hown))
  go_ret
  refine ⟨g, c', rfl, ⟨hown, h.byte, fun g' hg' => ?_⟩, new_then (World.grownBy_alloc w _ none) hgr⟩
  simp only [Value.ownBlock, Option.some.injEq] at hg'
  subst hg'
  rcases hg with h | h
  · have h' : w.heap.size = g := Option.some.inj h
    omega
  · have h' := (World.grownBy_alloc w (.cells #[] 5) none).size
    omega
theorem poly_any (ad : Option Addr) (n cap : Nat) (L : List Nat) (w : World) (h : Rd w ad n cap L) (h0 : 0 < n) (hn : n ≤ 140737488355328) :
    Calls Tryd.prog 35 #[.slice ad n cap] w fun e w' => ∃ g c', e = .returned (.slice (some ⟨g, 0, none⟩) n c') ∧ Ans w' w.heap.size (some ⟨g, 0, none⟩) n c' L.reverse ∧ w.grownBy w' none := by
  go_enter Tryd.func35, Tryd.ntmps35
  go_wp2_with (first
    | (go_at_call 15; refine (clone_any ad n cap L w h h0 hn).mono ?_; rintro e w1 ⟨g, c', rfl, h1, g01⟩)
    | (go_at_call 43; refine (reverse_any g n c' w.heap.size L w1 h1 hn).mono ?_; rintro e w2 ⟨rfl, h2, g12⟩))
  go_ret
  exact ⟨g, c', rfl, h2, grown_far g01 g12 (fun g' e => h1.new g' (by simp [Value.ownBlock]; exact Option.some.inj e))⟩

theorem isB_pair (a b : Nat) (ha : a < 256) (hb : b < 256) : IsB [a, b] := by
  intro x hx
  simp at hx
  rcases hx with rfl | rfl <;> assumption
theorem one_ans (w : World) (lo : Nat) (hlo : lo ≤ w.heap.size) : Ans (w.alloc (.cells #[.int .u8 1] 5)) lo (some ⟨w.heap.size, 0, none⟩) 1 1 [1] := by
  have hB : Blk (w.alloc (.cells #[.int .u8 1] 5)) w.heap.size [1] := heap_alloc_new w _
  have := hB.ans (n := 1) (lo := lo) (fun y hy => by simp at hy; omega) (by simp) (by unfold maxLen; simp) hlo
  exact this
end

section
theorem trimByte_any (a : Option Addr) (n cap : Nat) (L : List Nat) (w : World) (h : Rd w a n cap L) :
    Calls Tryd.prog 54 #[.slice a n cap, .int .u8 0] w fun e w' => e = .returned (.slice a (trimN L n) cap) ∧ w' = w := by
  obtain ⟨hl, hle, hm, hnil, hb, hat⟩ := h
  unfold maxLen at hm
  go_enter Tryd.func54, Tryd.ntmps54
  go_wp2
  go_loop [0] (fun s => ∃ k : Nat, k ≤ n ∧ s = .slice a k cap ∧ trimN L k = trimN L n) (fun s => match s with | .slice _ k _ => k | _ => 0)
  case atStart => exact ⟨n, by omega, rfl, rfl⟩
  case round =>
    obtain ⟨k, hk, rfl, HK⟩ := hrel
    have HK' : Hid (trimN L k = trimN L n) := HK
    clear HK
    by_cases hk0 : 0 < k
    · obtain ⟨b, off, rfl, hbw, hc⟩ := hat (by omega)
      have hck := hc (k - 1) (by omega)
      have hbk := hb.nth (k - 1)
      clear hat hc hnil
      obtain ⟨j, rfl⟩ : ∃ j, k = j + 1 := ⟨k - 1, by omega⟩
      simp only [Nat.add_sub_cancel] at hck hbk
      by_cases hz : nth L j = 0
      · have hz' : ((nth L j : Int) == 0) = true := by rw [hz]; rfl
        have HZ : Hid (trimN L j = trimN L n) := (trimN_zero L j hz).symm.trans HK'.out
        clear hz
        go_wp2
        go_round
        case rel => exact ⟨j, by omega, by go_num, HZ⟩
        case measure => simp
      · have hz' : ((nth L j : Int) == 0) = false := by simp; omega
        have HZ : Hid (j + 1 = trimN L n) := (trimN_nz L j hz).symm.trans HK'.out
        clear hz
        go_wp2
        go_ret
        exact ⟨by rw [← HZ.out]; rfl, rfl⟩
    · obtain rfl : k = 0 := by omega
      have HZ : Hid (0 = trimN L n) := HK'.out
      go_wp2
      go_ret
      exact ⟨by rw [← HZ.out]; rfl, rfl⟩
theorem strim_any (a : Option Addr) (n cap : Nat) (L : List Nat) (w : World) (h : Rd w a n cap L) :
    Calls Tryd.prog 38 #[.slice a n cap] w fun e w' => e = .returned (.slice a (trimN L n) cap) ∧ w' = w := by
  have H : Calls Tryd.prog 46 #[.slice a n cap, .string ⟨#[0]⟩] w fun e w' => e = .returned (.slice a (trimN L n) cap) ∧ w' = w := by
    have hle := h.le
    have hm := h.max
    unfold maxLen at hm
    by_cases h0 : n = 0
    · subst h0
      go_enter Tryd.func46, Tryd.ntmps46
      go_wp2
      go_ret
      exact ⟨rfl, rfl⟩
    · have hz : ((n : Int) == 0) = false := by simp; omega
      have HT := trimByte_any a n cap L w h
      clear h0
      go_enter Tryd.func46, Tryd.ntmps46
      go_wp2_with (go_at_call 54; refine HT.mono ?_; rintro e w' ⟨rfl, hw⟩; have hw := hw.symm; subst hw)
      go_ret
      exact ⟨rfl, rfl⟩
  go_enter Tryd.func38, Tryd.ntmps38
  go_wp2_with (go_at_call 46; refine H.mono ?_; rintro e w' ⟨rfl, hw⟩; have hw := hw.symm; subst hw)
  go_ret
  exact ⟨rfl, rfl⟩

/-- the values of a word at Power(1), Power(2), .. -/
def synL (W : List Nat) (c : Nat) : List Nat := (List.range c).map fun (j : Nat) => atL W.reverse (pow2 ((j : Int) + 1))
def valL (W : List Nat) (c : Nat) : List Nat := trimL (synL W c)
theorem synL_len (W : List Nat) (c : Nat) : (synL W c).length = c := by simp [synL]
theorem nth_synL (W : List Nat) (c j : Nat) (h : j < c) : nth (synL W c) j = atL W.reverse (pow2 ((j : Int) + 1)) := nth_map_range _ _ _ h
theorem Ans.cut {w : World} {lo g n cap m : Nat} {L : List Nat} (h : Ans w lo (some ⟨g, 0, none⟩) n cap L) (hm : m ≤ n) : Ans w lo (some ⟨g, 0, none⟩) m cap (L.take m) := by
  have hl := h.len
  refine ⟨⟨by rw [bys_length, List.length_take]; omega, ?_⟩, isB_take h.byte _, h.new⟩
  rcases h.own.2 with ⟨h1, _⟩ | ⟨g', cap', cur, h1, h2, h3, h4, h5, h6, h7⟩
  · cases h1
  · cases h1
    refine .inr ⟨g, cap, cur, rfl, h2, h3, by omega, h5, h6, ?_⟩
    have e : bys (L.take m) = (bys L).take m := by simp [bys, List.map_take]
    rw [e, ← h7, List.take_take]
    congr 1
    omega
theorem atL_lt' {P : List Nat} (hP : IsB P) (x : Nat) : atL P x < 256 := horN_lt hP x _
theorem values_any (a : Option Addr) (n cap c : Nat) (W : List Nat) (w : World) (hp : Rd w a n cap W) (h0 : 0 < n) (hn : n ≤ 255) (hc : c ≤ 64) :
    Calls Tryd.prog 29 #[.slice a n cap, .int .i64 c] w fun e w' => ∃ a' c', e = .returned (.slice a' (valL W c).length c') ∧ Ans w' w.heap.size a' (valL W c).length c' (valL W c) ∧ w.grownBy w' none := by
  have hBr := isB_reverse hp.byte
  go_enter Tryd.func29, Tryd.ntmps29
  go_wp2_with (first
    | (go_at_call 35; refine (poly_any a n cap W w hp h0 (by omega)).mono ?_; rintro e w1 ⟨gp, cp, rfl, hp1, g01⟩)
    | (at_make; refine wpList_mkB _ rfl _ _ rfl _ _ c rfl rfl rfl rfl (by omega) ?_; intro w2 hb2 hg12))
  have hp2 := hp1.keep hg12
  go_loopw [14] (fun i wr => ∃ k : Nat, k ≤ c ∧ i = .int .i64 k ∧ w1.grownBy wr none ∧ ∃ D, Blk wr w1.heap.size D ∧ D.length = c ∧ IsB D ∧ ∀ j, j < k → nth D j = nth (synL W c) j) (fun i _ => c - (intOf i).toNat)
  case atStart => exact ⟨0, by omega, rfl, hg12, _, hb2, by simp, isB_zeros _, fun j hj => by omega⟩
  case round =>
    obtain ⟨k, hk, rfl, hgr, D, hB, hDl, hDB, hD⟩ := hrel
    have HDl : Hid (D.length = c) := hDl
    have HD : Hid (∀ j, j < k → nth D j = nth (synL W c) j) := hD
    clear hDl hD
    by_cases hlt : k < c
    · have hpr := hp1.rd.keep hgr
      have hpw := pow2_lt ((k : Int) + 1)
      have HAT := at_any _ n cp (pow2 ((k : Int) + 1)) W.reverse wr hpr hpw (by omega)
      have hvl := atL_lt' hBr (pow2 ((k : Int) + 1))
      obtain ⟨v, hv⟩ : ∃ v, v = atL W.reverse (pow2 ((k : Int) + 1)) := ⟨_, rfl⟩
      rw [← hv] at HAT hvl
      have HV : Hid (v = nth (synL W c) k) := by show _ = _; rw [hv, nth_synL W c k hlt]
      clear hv
      go_wp2_with (first
        | (go_at_call 37; refine (power_any ((k : Int) + 1) wr (by omega) (by omega)).mono ?_; rintro e w' ⟨rfl, hw⟩; have hw := hw.symm; subst hw)
        | (go_at_call 36; refine HAT.mono ?_; rintro e w3 ⟨rfl, g3⟩; have hB3 := hB.grown g3 (by simp); have hck := hB3.cell k (by rw [HDl.out]; exact hlt); have hfk := hB3.free k; have hS := hB3.set k v))
      go_roundw
      case rel =>
        refine ⟨k + 1, by omega, by go_num, new_then (grown_trans hgr g3) (grown_set _ _ _ _), _, hS, by rw [List.length_set]; exact HDl.out, isB_set hDB _ _ hvl, fun j hj => ?_⟩
        rw [nth_set _ _ _ _ (by rw [HDl.out]; exact hlt)]
        by_cases e : k = j
        · subst e; rw [if_pos rfl]; exact HV.out
        · rw [if_neg e]; exact HD.out j (by omega)
      case measure => simp [intOf]; omega
    · obtain rfl : k = c := by omega
      have HE : Hid (D = synL W k) := by
        show _ = _
        exact list_ext (by rw [HDl.out, synL_len]) fun j hj => HD.out j (by rw [← HDl.out]; exact hj)
      have hrd := hB.rd hDB HDl.out (by unfold maxLen; omega)
      have hans := hB.ans (n := trimN D k) (lo := w.heap.size) hDB (by rw [HDl.out]; exact trimN_le D k) (by rw [HDl.out]; unfold maxLen; omega) g01.size
      rw [HDl.out] at hans
      have HT : Hid (D.take (trimN D k) = valL W k ∧ trimN D k = (valL W k).length) := by
        have e : D.take (trimN D k) = valL W k := by unfold valL; rw [← HE.out]; unfold trimL; rw [HDl.out]
        refine ⟨e, ?_⟩
        rw [← e, List.length_take, HDl.out]
        have := trimN_le D k
        omega
      go_wp2_with (go_at_call 38; refine (strim_any _ _ _ D _ hrd).mono ?_; rintro e w' ⟨rfl, rfl⟩)
      go_ret
      exact ⟨_, _, by rw [← HT.out.2]; rfl, by rw [← HT.out.2]; rw [← HT.out.1]; exact hans, grown_trans g01 hgr⟩
end

section
/-- the derivative: just the odd powers leave something -/
def drvL (P : List Nat) : List Nat := (List.range P.length).map fun i => if i % 2 = 0 then nth P (i + 1) else 0
theorem drvL_len (P : List Nat) : (drvL P).length = P.length := by simp [drvL]
theorem nth_drvL (P : List Nat) (i : Nat) (h : i < P.length) : nth (drvL P) i = if i % 2 = 0 then nth P (i + 1) else 0 := nth_map_range _ _ _ h
theorem derivative_any (a : Option Addr) (n cap : Nat) (P : List Nat) (w : World) (hp : Rd w a n cap P) (hn : n ≤ 100000) :
    Calls Tryd.prog 41 #[.slice a n cap] w fun e w' => e = .returned (.slice (some ⟨w.heap.size, 0, none⟩) n n) ∧ Ans w' w.heap.size (some ⟨w.heap.size, 0, none⟩) n n (drvL P) ∧ w.grownBy w' none := by
  have HL : Hid (P.length = n) := hp.len
  go_enter Tryd.func41, Tryd.ntmps41
  go_wp2_with (at_make; refine wpList_mkB _ rfl _ _ rfl _ _ n rfl rfl rfl rfl (by omega) ?_; intro w1 hb1 hg1)
  go_loopw [4] (fun i wr => ∃ q z : Nat, z = 2 * q + 1 ∧ i = .int .i64 z ∧ w.grownBy wr none ∧ ∃ D, Blk wr w.heap.size D ∧ D.length = n ∧ IsB D ∧ ∀ j, j < n → nth D j = if j % 2 = 0 ∧ j + 1 < z then nth P (j + 1) else 0) (fun i _ => n + 1 - (intOf i).toNat)
  case atStart => exact ⟨0, 1, by omega, rfl, hg1, _, hb1, by simp, isB_zeros _, fun j hj => by rw [nth_zeros, if_neg (by omega)]⟩
  case round =>
    obtain ⟨q, z, hz, rfl, hgr, D, hB, hDl, hDB, hD⟩ := hrel
    have HDl : Hid (D.length = n) := hDl
    have HD : Hid (∀ j, j < n → nth D j = if j % 2 = 0 ∧ j + 1 < z then nth P (j + 1) else 0) := hD
    have HZ : Hid (z = 2 * q + 1) := hz
    clear hDl hD
    by_cases hlt : z < n
    · obtain ⟨b1, off1, rfl, hbw1, hcc⟩ := (hp.keep hgr).at' (by omega)
      have hck := hcc z hlt
      have hbk := hp.byte.nth z
      obtain ⟨y, rfl⟩ : ∃ y, z = y + 1 := ⟨z - 1, by omega⟩
      have hcy := hB.cell y (by rw [HDl.out]; omega)
      have hfy := hB.free y
      have hS := hB.set y (nth P (y + 1))
      clear hcc hz
      go_wp2
      go_roundw
      case rel =>
        have e0 := HZ.out
        refine ⟨q + 1, y + 3, by omega, by go_num, new_then hgr (grown_set _ _ _ _), _, hS, by rw [List.length_set]; exact HDl.out, isB_set hDB _ _ hbk, fun j hj => ?_⟩
        rw [nth_set _ _ _ _ (by rw [HDl.out]; omega)]
        by_cases e : y = j
        · subst e; rw [if_pos rfl, if_pos (by omega)]
        · rw [if_neg e, HD.out j hj]
          by_cases e2 : j % 2 = 0 ∧ j + 1 < y + 1
          · rw [if_pos e2, if_pos (by omega)]
          · rw [if_neg e2, if_neg (by omega)]
      case measure => simp [intOf]; omega
    · have HE : Hid (D = drvL P) := by
        show _ = _
        have e0 := HZ.out
        refine list_ext (by rw [HDl.out, drvL_len, HL.out]) fun j hj => ?_
        rw [HDl.out] at hj
        rw [HD.out j hj, nth_drvL _ _ (by rw [HL.out]; exact hj)]
        by_cases e : j % 2 = 0
        · by_cases e2 : j + 1 < z
          · rw [if_pos ⟨e, e2⟩, if_pos e]
          · rw [if_neg (by omega), if_pos e, nth_out P _ (by rw [HL.out]; omega)]
        · rw [if_neg (by omega), if_neg e]
      have hans := hB.ans (n := n) (lo := w.heap.size) hDB (by rw [HDl.out]; exact Nat.le_refl _) (by rw [HDl.out]; unfold maxLen; omega) (Nat.le_refl _)
      rw [HDl.out, List.take_of_length_le (by rw [HDl.out]; exact Nat.le_refl _), HE.out] at hans
      clear hz
      go_wp2
      go_ret
      exact ⟨rfl, hans, hgr⟩

/-- what 'shortest' answers -/
def shoL (K : List Nat) (c h : Nat) : List Nat × List Nat := euc c h K.length (List.replicate c 0 ++ [1]) K [] [1]
theorem set_last (c : Nat) : (List.replicate (c + 1) 0).set c 1 = List.replicate c 0 ++ [1] := by
  refine list_ext (by simp) fun i hi => ?_
  rw [nth_set _ _ _ _ (by simp), nth_zeros]
  have hi' : i < c + 1 := by simpa using hi
  unfold nth
  by_cases e : c = i
  · subst e; rw [if_pos rfl, List.getD_eq_getElem?_getD, List.getElem?_append_right (by simp)]; simp
  · rw [if_neg e, List.getD_eq_getElem?_getD, List.getElem?_append_left (by simp; omega), List.getElem?_replicate, if_pos (by omega)]; rfl
theorem euc_stop {c h : Nat} (k : Nat) (l r b f : List Nat) (hr : ¬ c + h + 2 ≤ 2 * r.length) : euc c h k l r b f = (f, r) := by
  cases k with
  | zero => rfl
  | succ k => simp only [euc, if_neg hr]
theorem euc_go {c h : Nat} (k : Nat) (l r b f : List Nat) (hr : c + h + 2 ≤ 2 * r.length) : euc c h (k + 1) l r b f = euc c h k r (ovT l r) f (trimL (sumL b (timR (ovQ l r) f))) := by
  simp only [euc, if_pos hr]
theorem rd_empty (w : World) (ad : Addr) : Rd w (some ad) 0 0 [] := ⟨rfl, Nat.le_refl _, Nat.zero_le _, (fun h => by cases h), (fun x hx => by cases hx), fun h => by omega⟩
/-- a slice lies nowhere below block lo -/
def New (lo : Nat) (a : Option Addr) : Prop := ∀ x, a = some x → lo ≤ x.block
theorem Ans.isNew {w : World} {lo lo' : Nat} {a : Option Addr} {n cap : Nat} {L : List Nat} (h : Ans w lo' a n cap L) (hl : lo ≤ lo') : New lo a := by
  intro x hx
  rcases h.cases with ⟨rfl, _, _⟩ | ⟨g, rfl, h1, _⟩
  · cases hx
  · cases hx; exact Nat.le_trans hl h1
set_option maxHeartbeats 2000000 in
theorem shortest_any (a : Option Addr) (n cap c h lo : Nat) (K : List Nat) (w : World) (hp : Rd w a n cap K) (hnew : New lo a) (hlo : lo ≤ w.heap.size) (tK : K = [] ∨ Top K) (hn : n ≤ c) (hc : c ≤ 64) (hh : h ≤ c) :
    Calls Tryd.prog 40 #[.slice a n cap, .int .i64 c, .int .i64 h] w fun e w' => ∃ a1 n1 c1 a2 n2 c2, e = .returned (.tuple #[.slice a1 n1 c1, .slice a2 n2 c2]) ∧
      Rd w' a1 n1 c1 (shoL K c h).1 ∧ Rd w' a2 n2 c2 (shoL K c h).2 ∧ w.grownBy w' none ∧ New lo a1 ∧ New lo a2 := by
  have HL : Hid (K.length = n) := hp.len
  have HI := euc_start hp.byte tK (by rw [hp.len]; exact hn) hh
  have hcI : ((c : Int) < (c : Int) + 1) := by omega
  have t1 : True := trivial
  go_enter Tryd.func40, Tryd.ntmps40
  go_wp2_with (at_make; have _t := t1; clear t1; refine wpList_mkB _ rfl _ _ rfl _ _ (c + 1) rfl rfl (by omega) (by omega) (by omega) ?_; intro w1 hb1 hg1; have hcc := hb1.cell c (by simp); have hfc := hb1.free c; have hS := hb1.set c 1; rw [set_last] at hS)
  have hB1 : IsB (List.replicate c 0 ++ [1]) := HI.bl
  obtain ⟨ws, hws⟩ : ∃ ws, ws = w1.setCell ⟨w.heap.size, c, none⟩ (.int .u8 1) := ⟨_, rfl⟩
  have hSs : Blk ws w.heap.size (List.replicate c 0 ++ [1]) := by rw [hws]; exact hS
  have g0s : w.grownBy ws none := by rw [hws]; exact new_then hg1 (grown_set _ _ _ _)
  have hgA := World.grownBy_alloc ws (.cells #[] 5) none
  have hgB := World.grownBy_alloc (ws.alloc (.cells #[] 5)) (.cells #[.int .u8 1] 5) none
  have hl0 := (hSs.rd hB1 (n := c + 1) (by simp) (by unfold maxLen; omega)).keep (grown_trans hgA hgB)
  have hf0 := (one_ans (ws.alloc (.cells #[] 5)) 0 (Nat.zero_le _)).rd
  have hbk : (ws.alloc (.cells #[] 5)).heap.size = w1.heap.size + 1 := by rw [hws]; simp [World.alloc, World.setCell]
  rw [hbk] at hf0
  have hfn : New lo (some ⟨w1.heap.size + 1, 0, none⟩) := fun x hx => by cases hx; have := hg1.size; show lo ≤ w1.heap.size + 1; omega
  have hr0 := hp.keep (grown_trans g0s (grown_trans hgA hgB))
  have g0e := grown_trans g0s (grown_trans hgA hgB)
  go_loopw [8, 9, 10, 11] (fun sl sr sb sf wr => ∃ (k : Nat) (al ar ab af : Option Addr) (nl cl nr cr nb cb nf cf : Nat) (l r b f : List Nat), sl = .slice al nl cl ∧ sr = .slice ar nr cr ∧ sb = .slice ab nb cb ∧ sf = .slice af nf cf ∧
    Rd wr al nl cl l ∧ Rd wr ar nr cr r ∧ Rd wr ab nb cb b ∧ Rd wr af nf cf f ∧ EInv c h l r b f ∧ r.length ≤ k ∧ euc c h k l r b f = shoL K c h ∧ w.grownBy wr none ∧ New lo ar ∧ New lo af) (fun _ sr _ _ _ => match sr with | .slice _ k _ => k | _ => 0)
  case atStart =>
    first
      | exact ⟨K.length, _, _, _, _, _, _, _, _, _, _, _, _, _, _, _, _, rfl, rfl, rfl, rfl, hl0, hr0, rd_empty _ _, hf0, HI, Nat.le_refl _, rfl, g0e, hnew, hfn⟩
      | (rw [← hws]; exact ⟨K.length, _, _, _, _, _, _, _, _, _, _, _, _, _, _, _, _, rfl, rfl, rfl, rfl, hl0, hr0, rd_empty _ _, hf0, HI, Nat.le_refl _, rfl, g0e, hnew, hfn⟩)
      | (subst hws; exact ⟨K.length, _, _, _, _, _, _, _, _, _, _, _, _, _, _, _, _, rfl, rfl, rfl, rfl, hl0, hr0, rd_empty _ _, hf0, HI, Nat.le_refl _, rfl, g0e, hnew, hfn⟩)
  case round =>
    obtain ⟨k, al, ar, ab, af, nl, cl, nr, cr, nb, cb, nf, cf, l, r, b, f, rfl, rfl, rfl, rfl, hl, hr, hb, hf, hE, hk, hF, hgr, hnr', hnf'⟩ := hrel
    have e1 := hl.len
    have e2 := hr.len
    have e3 := hb.len
    have e4 := hf.len
    have i1 := hE.sum
    have i2 := hE.lt
    have i3 := hE.lb
    by_cases hgo : c + h + 2 ≤ 2 * nr
    · obtain ⟨k', rfl⟩ : ∃ k', k = k' + 1 := ⟨k - 1, by omega⟩
      obtain ⟨hE2, hlt2⟩ := hE.step hc (by omega)
      have HF : Hid (euc c h k' r (ovT l r) f (trimL (sumL b (timR (ovQ l r) f))) = shoL K c h) := by show _ = _; rw [← hF, euc_go k' l r b f (by omega)]
      have HE2 : Hid (EInv c h r (ovT l r) f (trimL (sumL b (timR (ovQ l r) f)))) := hE2
      have hq := timR_le (ovQ l r) f
      have hbn : nb ≤ 1000 := by omega
      have hnr : nr ≤ 1000 := by omega
      clear hF hE2 hE i1 i2 i3 e1 e3 e4
      go_wp2_with (first
        | (go_at_call 50; refine (over_all al ar nl nr cl cr l r wr hl hr).mono ?_; rintro e w2 ⟨aq, nq, cq, at_, nt, ct, rfl, hq2, ht2, g12, _⟩; have hf2 := hf.keep g12; have hb2 := hb.keep g12)
        | (go_at_call 39; refine (times_all aq af nq nf cq cf (ovQ l r) f w2 hq2.rd hf2).mono ?_; rintro e w3 ⟨am, nm, cm, rfl, hm3, g23⟩; have hnm := hm3.len; have hb3 := hb2.keep g23)
        | (go_at_call 51; refine (sum_any ab am nb nm cb cm b (timR (ovQ l r) f) w3 hb3 hm3.rd (by omega) (by omega)).mono ?_; rintro e w4 ⟨ax, ns, cs, rfl, hs4, g34⟩))
      have g14 := grown_trans g12 (grown_trans g23 g34)
      have hnt := ht2.len
      go_roundw
      case rel => exact ⟨k', _, _, _, _, _, _, _, _, _, _, _, _, r, ovT l r, f, _, rfl, rfl, rfl, rfl, hr.keep g14, (ht2.keep (grown_trans g23 g34)).rd, hf.keep g14, hs4.rd, HE2.out, by omega, HF.out, grown_trans hgr g14, ht2.isNew (Nat.le_trans hlo hgr.size), hs4.isNew (Nat.le_trans hlo (grown_trans hgr (grown_trans g12 g23)).size)⟩
      case measure => simp; omega
    · have HF : Hid (shoL K c h = (f, r)) := by show _ = _; rw [← hF]; exact euc_stop k l r b f (by omega)
      clear hF
      go_wp2
      go_ret2
      exact ⟨_, _, _, _, _, _, rfl, by rw [HF.out]; exact hf, by rw [HF.out]; exact hr, hgr, hnf', hnr'⟩
end
end Go.Proofs.YtdcfgaibppenaaaDoor
