import Derived.Test.YtnpkmjdlohdieaaUVg
import Derived.Test.YtnpkmjdlohdieaaZRs
namespace Go.Proofs.Ytnpkmjdlohdieaa
open Go.RowKit
set_option maxRecDepth 100000
set_option linter.unusedVariables false
set_option linter.unusedSimpArgs false
theorem rdX_one (w : World) (e : TypeId) (v : Value) (h1 : v.oneCell' = true) : RdX (w.alloc (.cells #[v] e)) (some ⟨w.heap.size, 0, none⟩) 1 1 [v] := by
  refine ⟨rfl, Nat.le_refl _, by decide, (fun h => by cases h), ?_, fun _ => ⟨w.heap.size, 0, rfl, by simp, fun i u hu => ?_⟩⟩
  · intro u hu
    have e : u = v := by simpa using hu
    rw [e]; exact h1
  · rw [cell_of_row _ _ _ _ _ _ (heap_alloc_new w _), Nat.zero_add]
    simpa using hu
/-- 'append(v, u)', v of the call's own -/
theorem wpList_psX {t e : TypeId} {z : Value} {by' : Nat} (E : ElT t e z by') (w : World) (u : Value) (h1 : u.oneCell' = true) {ops : Array Oper} {rest : List Oper} {o : Oper} {a : Act} {Q : Exit → Act → World → Prop} (hg : o.guard = none) (s x : Operand)
    (hop : o.op = Op.call { callee := .builtin .append, args := #[s, x], argTypes := #[t, t] }) (ao : Option Addr) (m co lo : Nat) (D : List Value) (hs : a.eval s = .slice ao m co)
    (hA : AnsX e w lo ao m co D) (hlo : lo ≤ w.heap.size) (hx : a.eval x = .slice (some ⟨w.heap.size, 0, none⟩) 1 1) (hb : m + 1 ≤ 8000000000000)
    (hK : ∀ gx cx w', AnsX e w' lo (some ⟨gx, 0, none⟩) (m + 1) cx (D ++ [u]) → w.grownBy w' (Value.slice ao m co).ownBlock → ((Value.slice ao m co).ownBlock = some gx ∨ w.heap.size ≤ gx) → wpList Try.prog ops Q rest (a.put o.dst (.slice (some ⟨gx, 0, none⟩) (m + 1) cx)) w') :
    wpList Try.prog ops Q (o :: rest) a (w.alloc (.cells #[u] e)) := by
  obtain ⟨i0, hi, hz0, hz1, hz2⟩ := info_parts E.inf
  have gA := World.grownBy_alloc w (.cells #[u] e) none
  have hR := rdX_one w e u h1
  have hpos := E.pos
  have hle : (m + 1) * by' ≤ (m + 1) * 16 := Nat.mul_le_mul_left _ hpos
  refine wpList_apS _ hg s x t e i0 z 1 by' E.und hi hz0 hz1 hz2 E.one (by decide) hop (.slice ao m co) m D hs (hA.own.alloc _) ⟨w.heap.size, 0, none⟩ 1 1 [u] hx rfl ?_ hR.one (by decide) (by unfold maxLen; omega) (by omega) ?_
  · intro j v hv
    obtain ⟨b, off, e', _, hc⟩ := hR.at' (by decide)
    cases e'
    rw [addr_add]
    exact hc j v hv
  · intro g c w' hgx hgr hown
    have hsz := gA.size
    refine hK g c w' ⟨hown, ?_, fun y hy => ?_⟩ (grown_trans (grown_weak gA _) hgr) ?_
    · intro v hv
      rcases List.mem_append.1 hv with h | h
      · exact hA.one v h
      · exact hR.one v h
    · have e' : g = y := Option.some.inj hy
      subst e'
      rcases hgx with h | h
      · exact hA.new g h
      · omega
    · rcases hgx with h | h
      · exact .inl h
      · exact .inr (by omega)
set_option maxHeartbeats 4000000 in
/-- numbers are written over by their owner, and grown -/
theorem over_any (mk : Int) (a : Option Addr) (n cap lo : Nat) (S : List Int) (w : World) (h : AnsX 3 w lo a n cap (zys S)) (hn : n ≤ 7000000000000) :
    Calls Try.prog 28 #[.slice a n cap, .int .i64 mk] w fun e w' => e = .returned (.tuple #[]) ∧ w.grownBy w' (Value.slice a n cap).ownBlock := by
  have hm2 := h.max
  unfold maxLen at hm2
  go_enter Try.func28, Try.ntmps28
  go_wp2
  go_loopw [4] (fun i wr => ∃ (k : Nat) (X : List Value), k ≤ n ∧ i = .int .i64 k ∧ w.grownBy wr (Value.slice a n cap).ownBlock ∧ AnsX 3 wr lo a n cap X) (fun i _ => n - (intOf i).toNat)
  case atStart => exact ⟨0, _, by omega, rfl, World.grownBy.refl _ _, h⟩
  case round =>
    obtain ⟨k, X, hk, rfl, hgr, hA⟩ := hrel
    by_cases hlt : k < n
    · have hlt' : (k : Int) < (n : Int) := by omega
      rcases hA.cases with ⟨_, h0, _⟩ | ⟨g, e, _, _⟩
      · omega
      subst e
      have hc := hA.cell k _ (List.getElem?_eq_getElem (by rw [hA.len]; exact hlt))
      have hf := hA.free k
      have R := hA.set k (.int .i64 mk) rfl
      go_wp2
      go_roundw
      case rel => exact ⟨k + 1, _, by omega, by go_num, grown_trans hgr (grown_set _ _ _ _), R⟩
      case measure => simp [intOf]; omega
    · have hlt' : ¬ (k : Int) < (n : Int) := by omega
      go_wp2
      go_loopw [0, 5] (fun v i wq => ∃ (q : Nat) (b : Option Addr) (m c : Nat) (Y : List Value), q ≤ 20 ∧ m = n + q ∧ i = .int .i64 q ∧ v = .slice b m c ∧ w.grownBy wq (Value.slice a n cap).ownBlock ∧ AnsX 3 wq 0 b m c Y ∧ (∀ y, (Value.slice b m c).ownBlock = some y → (Value.slice a n cap).ownBlock = some y ∨ w.heap.size ≤ y)) (fun _ i _ => 20 - (intOf i).toNat)
      case atStart => exact ⟨0, a, n, cap, X, by omega, rfl, rfl, rfl, hgr, hA.low (Nat.zero_le _), fun y hy => .inl hy⟩
      case round =>
        obtain ⟨q, b, m, c, Y, hq, hmq, rfl, rfl, hgq, hY, hb⟩ := hrel
        by_cases hlq : q < 20
        · have hlq' : (q : Int) < 20 := by omega
          have hsz := hgq.size
          go_wp2_with (at_builtin; refine wpList_psX Try.elI wr (.int .i64 mk) rfl rfl _ _ rfl b m c 0 Y rfl hY (Nat.zero_le _) rfl (by omega) ?_; intro gx cx w2 hA2 hg2 hx2)
          go_roundw
          case rel =>
            refine ⟨q + 1, some ⟨gx, 0, none⟩, m + 1, cx, _, by omega, by omega, by go_num, by rw [hmq], ?_, hA2, ?_⟩
            · cases hbo : (Value.slice b m c).ownBlock with
              | none => rw [hbo] at hg2; exact grown_trans hgq (grown_weak hg2 _)
              | some y => rw [hbo] at hg2; exact grown_new hgq hg2 (hb y hbo)
            · intro y hy
              have e : gx = y := Option.some.inj hy
              subst e
              rcases hx2 with h | h
              · exact hb gx h
              · exact .inr (by omega)
          case measure => simp [intOf]; omega
        · have hlq' : ¬ (q : Int) < 20 := by omega
          go_wp2
          go_end0
          exact ⟨rfl, hgq⟩
theorem step_skip {w w' : World} {ops : Array Oper} {o : Oper} {a : Act} {K : Act → World → Prop} {Q : Exit → Act → World → Prop} {E : Prop} (hw : Region.wanted o (yielded ops a.tmps) = true) (hy : (execOp a.eval o).run Try.prog w = .ok .skip w') (h : K (a.put o.dst undef) w') :
    if Region.wanted o (yielded ops a.tmps) = true then Oper.wp Try.prog o a w K Q else E := by
  rw [if_pos hw]
  unfold Oper.wp
  rw [hy]
  exact h
set_option maxHeartbeats 8000000 in
/-- a vigil is written over by its owner -/
theorem overVigil_any (A : Va) (D : Vi) (lo : Nat) (w : World) (h : OwVg w lo A D) (h1 : A.nb ≤ 7000000000000) (h2 : A.nt ≤ 7000000000000) :
    Calls Try.prog 13 #[.agg (vgA D A)] w fun e w' => e = .returned (.tuple #[]) ∧ Fz (Vbl A) w w' := by
  have b0 := BxS.new w 29 (vgA D A)
  have g0 := World.grownBy_alloc w (.cells (vgA D A) 29) none
  generalize hw0 : w.alloc (.cells (vgA D A) 29) = w0 at b0 g0
  have hz0 : w0.heap.size = w.heap.size + 1 := by rw [← hw0]; simp
  have hhi := h.hi
  have h0 := h.keep g0
  have hO1 := over_any (-7) A.ab A.nb A.cb lo D.bd w0 h0.b h1
  have hO2 := fun wz (hz : w0.grownBy wz (Value.slice A.ab A.nb A.cb).ownBlock) => over_any (-7) A.at' A.nt A.ct lo D.tr wz (h0.t.kept hz (by
    cases hb : (Value.slice A.at' A.nt A.ct).ownBlock with
    | none => exact .inl rfl
    | some y => exact .inr fun e => h0.ne y e.symm hb)) h2
  have hpne : ∀ (r : Option Nat), (∀ g, r = some g → ∀ y, (Value.slice A.ap A.np A.cp).ownBlock = some y → y ≠ g) → (Value.slice A.ap A.np A.cp).ownBlock = none ∨ (Value.slice A.ap A.np A.cp).ownBlock ≠ r := by
    intro r hr
    cases hb : (Value.slice A.ap A.np A.cp).ownBlock with
    | none => exact .inl rfl
    | some y => exact .inr fun e => hr y e.symm y hb rfl
  have ap1 := ans_apart h0.b h0.p (by decide)
  have ap2 := ans_apart h0.t h0.p (by decide)
  have hmx := h0.p.max
  unfold maxLen at hmx
  unfold vgA at hw0 b0 ⊢
  obtain ⟨c0, c1, c2, c3, c4, c5⟩ := b0.cell6
  have bne : ∀ (r : Option Nat), (∀ g, r = some g → Vbl A g) → some w.heap.size ≠ r := by
    intro r hr e
    have := hhi w.heap.size (hr _ e.symm)
    omega
  have t0 : True := trivial
  go_enter Try.func13, Try.ntmps13
  go_wp2_with (first
    | (go_at_call 28; have _t := t0; clear t0; refine hO1.mono ?_; rintro e w2 ⟨rfl, g2⟩; clear c0 c1 c2 c3 c4 c5; have b2 := b0.keep g2 (bne _ (fun g e => .inl e)); obtain ⟨c0, c1, c2, c3, c4, c5⟩ := b2.cell6; have t1 : True := trivial)
    | (go_at_call 28; have _t := t1; clear t1; refine (hO2 _ g2).mono ?_; rintro e w3 ⟨rfl, g3⟩; clear c0 c1 c2 c3 c4 c5; have b3 := b2.keep g3 (bne _ (fun g e => .inr (.inr e)))))
  have hp3 := (h0.p.kept g2 (hpne _ (fun g e y hy he => ap1 g e (he ▸ hy)))).kept g3 (hpne _ (fun g e y hy he => ap2 g e (he ▸ hy)))
  have F3 : Fz (Vbl A) w w3 := (((Fz.refl _ w).step g0 (fun k e _ => by cases e)).step g2 (fun k e _ => .inl e)).step g3 (fun k e _ => .inr (.inr e))
  clear hO1 hO2 ap1 ap2
  go_loopw [2] (fun i wr => ∃ (k : Nat) (H : List Bool), k ≤ A.np ∧ i = .int .i64 k ∧ w3.grownBy wr (Value.slice A.ap A.np A.cp).ownBlock ∧ AnsX 4 wr lo A.ap A.np A.cp (hls H)) (fun i _ => A.np - (intOf i).toNat)
  case atStart => exact ⟨0, D.tp, by omega, rfl, World.grownBy.refl _ _, hp3⟩
  case round =>
    obtain ⟨k, H, hk, rfl, hgr, hA⟩ := hrel
    obtain ⟨c0, c1, c2, c3, c4, c5⟩ := (b3.keep hgr (bne _ (fun g e => .inr (.inl e)))).cell6
    by_cases hlt : k < A.np
    · have hlt' : (k : Int) < (A.np : Int) := by omega
      rcases hA.cases with ⟨_, hx, _⟩ | ⟨g, e, _, hgl⟩
      · omega
      have hln : H.length = A.np := by rw [← hls_len]; exact hA.len
      generalize A.ap = zp at *
      generalize A.np = zn at *
      generalize A.cp = zc at *
      subst e
      have hc := hA.cell k _ (hls_at H k (by omega))
      have hf := hA.free k
      have R := hA.set k (.bool (!hat H k)) rfl
      rw [show (hls H).set k (.bool (!hat H k)) = hls (H.set k (!hat H k)) by simp [hls, List.map_set]] at R
      generalize hat H k = hb at *
      go_wp2
      refine wp_regionL (fun wz => wz.cell? ⟨w.heap.size, 3, none⟩ = some (.slice (some ⟨g, 0, none⟩) zn zc) ∧ wz.cell? ⟨g, k, none⟩ = some (.bool hb)) [10] #[false, false, false, false, false, false, false, false, false, false, false] rfl (by kernel_rfl) ?_
      refine wpAnyZ_take [10] 0 (.pointer (some ⟨w.heap.size, 3, none⟩)) rfl (by kernel_rfl) (fun _ _ _ h => h) ⟨c3, hc⟩ rfl (by rintro wz ⟨z3, zk⟩; go_simp) ?_
      try simp only [List.getElem_toArray, List.getElem_cons_succ, List.getElem_cons_zero, Act.put, List.setIfInBounds_toArray, List.set_cons_zero, List.set_cons_succ]
      refine wpAnyZ_take [10] 1 (.slice (some ⟨g, 0, none⟩) zn zc) rfl (by kernel_rfl) (fun _ _ _ h => h) ⟨c3, hc⟩ rfl (by rintro wz ⟨z3, zk⟩; go_simp) ?_
      try simp only [List.getElem_toArray, List.getElem_cons_succ, List.getElem_cons_zero, Act.put, List.setIfInBounds_toArray, List.set_cons_zero, List.set_cons_succ]
      refine wpAnyZ_take [10] 2 (.int .i64 (k : Int)) rfl (by kernel_rfl) (fun _ _ _ h => h) ⟨c3, hc⟩ rfl (by rintro wz ⟨z3, zk⟩; go_simp) ?_
      try simp only [List.getElem_toArray, List.getElem_cons_succ, List.getElem_cons_zero, Act.put, List.setIfInBounds_toArray, List.set_cons_zero, List.set_cons_succ]
      refine wpAnyZ_take [10] 3 (.pointer (some ⟨w.heap.size, 3, none⟩)) rfl (by kernel_rfl) (fun _ _ _ h => h) ⟨c3, hc⟩ rfl (by rintro wz ⟨z3, zk⟩; go_simp) ?_
      try simp only [List.getElem_toArray, List.getElem_cons_succ, List.getElem_cons_zero, Act.put, List.setIfInBounds_toArray, List.set_cons_zero, List.set_cons_succ]
      refine wpAnyZ_take [10] 4 (.slice (some ⟨g, 0, none⟩) zn zc) rfl (by kernel_rfl) (fun _ _ _ h => h) ⟨c3, hc⟩ rfl (by rintro wz ⟨z3, zk⟩; go_simp) ?_
      try simp only [List.getElem_toArray, List.getElem_cons_succ, List.getElem_cons_zero, Act.put, List.setIfInBounds_toArray, List.set_cons_zero, List.set_cons_succ]
      refine wpAnyZ_take [10] 5 (.int .i64 (k : Int)) rfl (by kernel_rfl) (fun _ _ _ h => h) ⟨c3, hc⟩ rfl (by rintro wz ⟨z3, zk⟩; go_simp) ?_
      try simp only [List.getElem_toArray, List.getElem_cons_succ, List.getElem_cons_zero, Act.put, List.setIfInBounds_toArray, List.set_cons_zero, List.set_cons_succ]
      refine wpAnyZ_take [10] 6 (.pointer (some ⟨g, k, none⟩)) rfl (by kernel_rfl) (fun _ _ _ h => h) ⟨c3, hc⟩ rfl (by rintro wz ⟨z3, zk⟩; go_simp) ?_
      try simp only [List.getElem_toArray, List.getElem_cons_succ, List.getElem_cons_zero, Act.put, List.setIfInBounds_toArray, List.set_cons_zero, List.set_cons_succ]
      refine wpAnyZ_take [10] 7 (.bool hb) rfl (by kernel_rfl) (fun _ _ _ h => h) ⟨c3, hc⟩ rfl (by rintro wz ⟨z3, zk⟩; go_simp) ?_
      try simp only [List.getElem_toArray, List.getElem_cons_succ, List.getElem_cons_zero, Act.put, List.setIfInBounds_toArray, List.set_cons_zero, List.set_cons_succ]
      refine wpAnyZ_take [10] 8 (.bool (!hb)) rfl (by kernel_rfl) (fun _ _ _ h => h) ⟨c3, hc⟩ rfl (by rintro wz ⟨z3, zk⟩; go_simp) ?_
      try simp only [List.getElem_toArray, List.getElem_cons_succ, List.getElem_cons_zero, Act.put, List.setIfInBounds_toArray, List.set_cons_zero, List.set_cons_succ]
      refine wpAnyZ_take [10] 9 (.pointer (some ⟨g, k, none⟩)) rfl (by kernel_rfl) (fun _ _ _ h => h) ⟨c3, hc⟩ rfl (by rintro wz ⟨z3, zk⟩; go_simp) ?_
      try simp only [List.getElem_toArray, List.getElem_cons_succ, List.getElem_cons_zero, Act.put, List.setIfInBounds_toArray, List.set_cons_zero, List.set_cons_succ]
      refine wpAnyZ_oneB 10 rfl (by kernel_rfl) (fun K hK => ?_)
      refine step_skip (w' := wr.drew.setCell ⟨g, k, none⟩ (.bool (!hb))) rfl (by go_simp) ?_
      refine hK _ _ (fun h => absurd (by decide) h) ?_
      try simp only [List.getElem_toArray, List.getElem_cons_succ, List.getElem_cons_zero, Act.put, List.setIfInBounds_toArray, List.set_cons_zero, List.set_cons_succ]
      refine wpAnyZ_doneB (by kernel_rfl) ?_ _
      go_wp2
      exact ⟨⟨k + 1, _, by omega, by go_num, grown_trans (grown_trans hgr (grown_set _ _ _ _)) (grown_drew _ _), R.keep (grown_drew _ _)⟩, by simp [intOf]; omega⟩
    · have hlt' : ¬ (k : Int) < (A.np : Int) := by omega
      go_wp2
      go_end0
      exact ⟨rfl, F3.step hgr (fun k e _ => .inr (.inl e))⟩
end Go.Proofs.Ytnpkmjdlohdieaa
