import Derived.Test.YtnpkmjdlohdieaaUOv
import Derived.Test.YtnpkmjdlohdieaaUCr
namespace Go.Proofs.Ytnpkmjdlohdieaa
open Go.RowKit
set_option maxRecDepth 100000
set_option linter.unusedVariables false
set_option linter.unusedSimpArgs false
/-- two may come up -/
theorem wpAnyZ_twoB {P : Program} {ops : Array Oper} {Q : Exit → Act → World → Prop} {md : Region.Mode} {S : World → Prop} {Z : List Nat} (i j : Nat) {o o' : Oper} {fuel : Nat} {listed : Array Bool} {a : Act} {w : World} (ho : ops[i]? = some o) (ho' : ops[j]? = some o') (hr : (Region.ready md ops listed == [i, j]) = true)
    (h : ∀ K' : Act → World → Prop, (∀ a w, (i ∉ Z → S w) → wpAnyZ P md ops Q S Z fuel (listed.setIfInBounds i true) a w → K' a w) → if Region.wanted o (yielded ops a.tmps) = true then Oper.wp P o a w K' Q else K' (a.put o.dst undef) w)
    (h' : ∀ K' : Act → World → Prop, (∀ a w, (j ∉ Z → S w) → wpAnyZ P md ops Q S Z fuel (listed.setIfInBounds j true) a w → K' a w) → if Region.wanted o' (yielded ops a.tmps) = true then Oper.wp P o' a w K' Q else K' (a.put o'.dst undef) w) :
    wpAnyZ P md ops Q S Z (fuel + 1) listed a w := by
  have hr := eq_of_beq hr
  refine ⟨fun h0 => (by rw [hr] at h0; cases h0), fun k hk => ?_⟩
  rw [hr] at hk
  rcases List.mem_cons.1 hk with e | hk
  · subst e
    exact wpOp_step ho (fun K' hK => h K' (fun a w hS hW => hK a w ⟨hS, hW⟩))
  · have e := List.mem_singleton.1 hk
    subst e
    exact wpOp_step ho' (fun K' hK => h' K' (fun a w hS hW => hK a w ⟨hS, hW⟩))
theorem step_run {w w' : World} {ops : Array Oper} {o : Oper} {a : Act} {K : Act → World → Prop} {Q : Exit → Act → World → Prop} {E : Prop} (v : Value) (hw : Region.wanted o (yielded ops a.tmps) = true) (hy : (execOp a.eval o).run Try.prog w = .ok (.value v) w') (h : K (a.put o.dst v) w') :
    if Region.wanted o (yielded ops a.tmps) = true then Oper.wp Try.prog o a w K Q else E := by
  rw [if_pos hw]
  unfold Oper.wp
  rw [hy]
  exact h
theorem run_mkX {t e : TypeId} {z : Value} {by' : Nat} (E : ElT t e z by') (hz : z.oneCell' = true) (hc : z.cells = #[z]) (n : Nat) (hn : n ≤ 1000) (w : World) :
    ∃ w', (Instr.makeSlice t (.int .i64 (n : Int)) (.int .i64 (n : Int))).run Try.prog w = .ok (.slice (some ⟨w.heap.size, 0, none⟩) n n) w' ∧ AnsX e w' w.heap.size (some ⟨w.heap.size, 0, none⟩) n n (List.replicate n z) ∧ w.grownBy w' none := by
  obtain ⟨i0, hi, hz0, hz1, hz2⟩ := info_parts E.inf
  have hpos := E.pos
  have hle : i0.bytes * n ≤ 16 * n := Nat.mul_le_mul_right _ (by omega)
  obtain ⟨w', hrun, r1, r2⟩ := run_make_full (P := Try.prog) w w.heap.size t e i0 z 1 E.und hi hz0 hz1 .i64 .i64 n (by omega) (by unfold maxLen; omega) (Nat.le_refl _)
  refine ⟨w', hrun, ⟨?_, ?_, fun g h => by have e : w.heap.size = g := Option.some.inj h; omega⟩, r2⟩
  · rw [Nat.mul_one, hc, toList_madeCells_one] at r1
    exact own_baseX r1
  · intro u hu
    rw [List.eq_of_mem_replicate hu]; exact hz
/-! a guard's own copy -/
def flM (F : Nat → Mo) (n : Nat) : List Value := (List.range n).flatMap fun i => (F i).cells
theorem flM_add (F : Nat → Mo) (n : Nat) : flM F (n + 1) = flM F n ++ (F n).cells := by simp [flM, List.range_succ]
theorem flM_len (F : Nat → Mo) (n : Nat) : (flM F n).length = n * 6 := by
  induction n with
  | zero => rfl
  | succ n ih => rw [flM_add, List.length_append, ih]; simp [Mo.cells]; omega
theorem flM_at (F : Nat → Mo) (n i j : Nat) (hi : i < n) (hj : j < 6) : (flM F n)[i * 6 + j]? = (F i).cells[j]? := by
  induction n with
  | zero => omega
  | succ n ih =>
    rw [flM_add]
    by_cases h : i < n
    · rw [List.getElem?_append_left (by rw [flM_len]; omega)]
      exact ih h
    · obtain rfl : i = n := by omega
      rw [List.getElem?_append_right (by rw [flM_len]; omega), flM_len, show i * 6 + j - i * 6 = j by omega]
theorem flM_one (F : Nat → Mo) (n : Nat) : ∀ u, u ∈ flM F n → u.oneCell' = true := by
  intro u hu
  obtain ⟨i, _, hm⟩ := List.mem_flatMap.1 hu
  simp [Mo.cells] at hm
  rcases hm with rfl | rfl | rfl | rfl | rfl | rfl <;> rfl
theorem Try.info_mo : (Try.prog.info? 51).map (fun i => (i.zero, i.size, i.bytes)) = some (some (.agg #[.int .i64 0, .int .i64 0, .int .i64 0, .int .i64 0, .int .i64 0, .string ByteArray.empty]), 6, 56) := by kernel_rfl
theorem RdM.nil0 (w : World) (F : Nat → Mo) : RdM w none 0 0 F := ⟨Nat.le_refl _, Nat.zero_le _, fun _ => rfl, fun h => absurd h (by decide)⟩
theorem RdM.kept {w w' : World} {a : Option Addr} {n cap : Nat} {F : Nat → Mo} {r : Option Nat} (h : RdM w a n cap F) (hg : w.grownBy w' r) (hne : ∀ b off, a = some ⟨b, off, none⟩ → b < w.heap.size → some b ≠ r) : RdM w' a n cap F :=
  ⟨h.le, h.max, h.nil, fun h0 => by
    obtain ⟨b, off, e, hb, hc⟩ := h.at' h0
    refine ⟨b, off, e, Nat.lt_of_lt_of_le hb hg.size, fun i hi j hj => ?_⟩
    rw [← hc i hi j hj]
    unfold World.cell?
    rw [hg.block b hb (hne b off e hb)]⟩
/-- 'append([]Monitor(nil), x...)' -/
theorem wpList_clM {w : World} {ops : Array Oper} {rest : List Oper} {o : Oper} {a : Act} {Q : Exit → Act → World → Prop} (hg : o.guard = none) (s x : Operand)
    (hop : o.op = Op.call { callee := .builtin .append, args := #[s, x], argTypes := #[22, 22] }) (hs : a.eval s = .slice none 0 0)
    (q : Option Addr) (m c : Nat) (F : Nat → Mo) (hx : a.eval x = .slice q m c) (hR : RdM w q m c F) (hb : m ≤ 2600000000000)
    (hK : ∀ q' c' w', RdM w' q' m c' F → (∀ b off, q' = some ⟨b, off, none⟩ → w.heap.size ≤ b) → w.grownBy w' none → wpList Try.prog ops Q rest (a.put o.dst (.slice q' m c')) w') :
    wpList Try.prog ops Q (o :: rest) a w := by
  obtain ⟨i0, hi, hz0, hz1, hz2⟩ := info_parts Try.info_mo
  cases q with
  | none =>
    have hc0 : c = 0 := hR.nil rfl
    have hn0 : m = 0 := by have := hR.le; omega
    subst hc0 hn0
    refine wpList_append_own_none hg s x 22 hop 0 51 i0 6 Try.underlying22 hi (.slice none 0 0) 0 [] hs (World.ownsRow_nil _ _ _ _) hx ?_
    exact hK none 0 w (RdM.nil0 _ _) (fun b off e => by cases e) (World.grownBy.refl _ _)
  | some ad =>
    refine wpList_append_own_wide w hg s x 22 hop w.heap.size 51 i0 _ 6 56 Try.underlying22 hi hz0 hz1 hz2 rfl (by decide) (.slice none 0 0) 0 [] hs (World.ownsRow_nil _ _ _ _) ad m c (flM F m) hx (flM_len F m) ?_ (flM_one F m) (by unfold maxLen; omega) (by omega) (Nat.le_refl _) ?_
    · intro j u hu
      have hj : j < m * 6 := by rw [← flM_len F m]; exact (List.getElem?_eq_some_iff.1 hu).1
      obtain ⟨b, off, e, _, hc⟩ := hR.at' (by omega)
      cases e
      have := hc (j / 6) (by omega) (j % 6) (Nat.mod_lt _ (by decide))
      rw [show j / 6 * 6 + j % 6 = j by omega] at this
      rw [addr_add, this]
      have h2 := flM_at F m (j / 6) (j % 6) (by omega) (Nat.mod_lt _ (by decide))
      rw [show j / 6 * 6 + j % 6 = j by omega] at h2
      rw [← h2]; exact hu
    · intro v' w' hown hgr _
      rw [Nat.zero_add, List.nil_append] at hown
      rcases hown.2 with ⟨rfl, h0⟩ | ⟨g, cap, cur, rfl, hbs, hh, hle, hmx, hsz, htk⟩
      · subst h0
        exact hK none 0 w' (RdM.nil0 _ _) (fun b off e => by cases e) hgr
      · refine hK (some ⟨g, 0, none⟩) cap w' ⟨hle, hmx, (fun e => by cases e), fun h0 => ⟨g, 0, rfl, (Array.getElem?_eq_some_iff.1 hh).1, fun i hi j hj => ?_⟩⟩ (fun b off e => by cases e; exact hbs) hgr
        have hk : i * 6 + j < (flM F m).length := by rw [flM_len]; omega
        obtain ⟨u, hu⟩ : ∃ u, (flM F m)[i * 6 + j]? = some u := ⟨_, List.getElem?_eq_getElem hk⟩
        have := hown.cells (g := g) rfl _ u hu
        rw [addr_add] at this
        rw [this, ← hu, flM_at F m i j hi hj]
theorem Try.info_gd : (Try.prog.info? 24).map (fun i => i.size) = some 5 := by kernel_rfl
theorem stc_slM (g i : Nat) (p : Option Addr) (l c : Nat) (w : World) (hc : ∃ u, w.cell? ⟨g, i, none⟩ = some u) (hf : w.frozen? ⟨g, i, none⟩ = false) : (Instr.storeAt 22 (.pointer (some ⟨g, i, none⟩)) (.slice p l c)).run Try.prog w = .ok () (w.setCell ⟨g, i, none⟩ (.slice p l c)) := by
  obtain ⟨u, hc⟩ := hc
  simp [go_sem, hc, hf]
set_option maxHeartbeats 8000000 in
theorem guardOwn_any (ma : Option Addr) (n mc : Nat) (si mo wi : Int) (sa : ByteArray) (F : Nat → Mo) (w : World) (hM : RdM w ma n mc F) (hb : n ≤ 2600000000000) : Calls Try.prog 6 #[.agg #[.slice ma n mc, .int .i64 si, .int .i64 mo, .int .i64 wi, .string sa]] w fun e w' => ∃ q c, e = .returned (.agg #[.slice q n c, .int .i64 si, .int .i64 mo, .int .i64 wi, .string sa]) ∧ RdM w' q n c F ∧ w.grownBy w' none := by
  have b0 := BxS.new w 24 #[.slice ma n mc, .int .i64 si, .int .i64 mo, .int .i64 wi, .string sa]
  have g0 := World.grownBy_alloc w (.cells #[.slice ma n mc, .int .i64 si, .int .i64 mo, .int .i64 wi, .string sa] 24) none
  generalize hw0 : w.alloc (.cells #[.slice ma n mc, .int .i64 si, .int .i64 mo, .int .i64 wi, .string sa] 24) = w0 at b0 g0
  have hz0 : w0.heap.size = w.heap.size + 1 := by rw [← hw0]; simp
  have b1 := BxS.new w0 24 #[.slice none 0 0, .int .i64 0, .int .i64 0, .int .i64 0, .string ⟨#[]⟩]
  have g1 := World.grownBy_alloc w0 (.cells #[.slice none 0 0, .int .i64 0, .int .i64 0, .int .i64 0, .string ⟨#[]⟩] 24) none
  generalize hw1 : w0.alloc (.cells #[.slice none 0 0, .int .i64 0, .int .i64 0, .int .i64 0, .string ⟨#[]⟩] 24) = w1 at b1 g1
  rw [hz0] at b1
  have b01 := b0.keep g1 (by simp)
  have G1 := grown_trans g0 g1
  obtain ⟨c0, c1, c2, c3, c4⟩ := b01.cell5
  have i5 := Try.info_gd
  have hz1 : w1.heap.size = w.heap.size + 2 := by rw [← hw1]; simp [hz0]
  have hM1 := hM.keep G1
  have t9 : True := trivial
  go_enter Try.func6, Try.ntmps6
  go_wp2_with (first
    | (at_builtin; refine wpList_clM rfl _ _ rfl rfl ma n mc F rfl hM1 hb ?_; intro q c w2 hM2 hq2 g2; have b2 := b01.keep g2 (by simp); have d2 := b1.keep g2 (by simp); have t2 : True := trivial)
    | (have _t := t2; refine wpList_stC _ rfl _ _ _ rfl w.heap.size 0 24 _ #[.slice q n c, .int .i64 si, .int .i64 mo, .int .i64 wi, .string sa] (.slice q n c) rfl rfl b2 (stc_slM _ _ _ _ _) (by show 0 < 5; decide) rfl ?_; clear t2; intro w3 b3 g3; have d3 := d2.keep g3 (fun e => by have := Option.some.inj e; omega); clear c0 c1 c2 c3 c4; obtain ⟨c0, c1, c2, c3, c4⟩ := b3.cell5; have t3 : True := trivial)
    | (have _t := t3; refine wpList_stX _ rfl _ (.tmp 2) (.tmp 7) rfl (w.heap.size + 1) _ _ rfl rfl d3 i5 rfl (by simp [Value.oneCell']) ?_; clear t3; intro w9 b9 g9))
  refine bodyPost_ret (results_cell1 rfl _ _ _ ⟨w.heap.size + 1, 0, none⟩ _ rfl (BxS.load (t := 24) b9 Try.underlying24 i5)) rfl ?_
  refine ⟨q, c, rfl, ?_, grown_far (grown_far (grown_trans G1 g2) g3 (fun q e => by have e : w.heap.size = q := Option.some.inj e; omega)) g9 (fun q e => by have e : w.heap.size + 1 = q := Option.some.inj e; omega)⟩
  refine (hM2.kept g3 (fun b off e _ e2 => ?_)).kept g9 (fun b off e _ e2 => ?_)
  · have := hq2 b off e
    have e2 : b = w.heap.size := Option.some.inj e2
    omega
  · have := hq2 b off e
    have e2 : b = w.heap.size + 1 := Option.some.inj e2
    omega
end Go.Proofs.Ytnpkmjdlohdieaa
