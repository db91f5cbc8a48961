import Derived.Test.YtnnohgllnfmoeaaPCa
import Derived.Test.YtnnohgllnfmoeaaZR
namespace Go.Proofs.Ytnnohgllnfmoeaa
open Go.RowKit
set_option maxRecDepth 100000
set_option linter.unusedVariables false
set_option linter.unusedSimpArgs false

set_option maxHeartbeats 8000000 in
theorem put_any (wb w : World) (go gp gu ga gc : Nat) (up : Bool) (ap : Int) (pc ct : Nat) (ao : Option Addr) (m co : Nat) (ps : List Pk) (h : CuS wb w go gp gu ga gc up ap pc ct ao m co ps)
    (b off n c : Nat) (D : List Nat) (hD : Rd w (some ⟨b, off, none⟩) n c D) (h0 : 0 < n) (hn : n ≤ 140737488355328) (hpc : 1 ≤ pc) (hpc' : pc ≤ 16384) (hm : m ≤ 16384) (hct : ct ≤ 16383) :
    Calls Try.prog 16 #[.slice (some ⟨b, off, none⟩) n c, .pointer (some ⟨go, 0, none⟩), .pointer (some ⟨gp, 0, none⟩), .pointer (some ⟨gu, 0, none⟩), .pointer (some ⟨ga, 0, none⟩), .pointer (some ⟨gc, 0, none⟩)] w fun e w' => ∃ ao' co' a' c', e = .returned (.tuple #[]) ∧ CuS wb w' go gp gu ga gc up ap pc ((ct + 1) % 16384) ao' (m + 1) co' (ps ++ [⟨up, false, ap, ptN m pc, ct, a', n, c', D⟩]) := by
  have q0 := h.out.cell1
  have q1 := h.pcs.cell1
  have q2 := h.upb.cell1
  have q3 := h.apb.cell1
  have q4 := h.cnt.cell1
  go_enter Try.func16, Try.ntmps16
  go_wp2_with (first
    | (go_at_call 17; with_reducible refine (partAt_any m pc _ hpc hpc' hm).mono ?_; rintro e w' ⟨rfl, hw'⟩; replace hw' := hw'.symm; subst hw'))
  refine wp_regionZ (fun w' => w'.cell? ⟨go, 0, none⟩ = some (.slice ao m co) ∧ w'.cell? ⟨gu, 0, none⟩ = some (.bool up) ∧ w'.cell? ⟨ga, 0, none⟩ = some (.int .i64 ap) ∧ w'.cell? ⟨gc, 0, none⟩ = some (.int .i64 (ct : Int))) [10] (by kernel_rfl) ?_
  have hS0 : (w.drew.cell? ⟨go, 0, none⟩ = some (.slice ao m co) ∧ w.drew.cell? ⟨gu, 0, none⟩ = some (.bool up) ∧ w.drew.cell? ⟨ga, 0, none⟩ = some (.int .i64 ap) ∧ w.drew.cell? ⟨gc, 0, none⟩ = some (.int .i64 (ct : Int))) := ⟨q0, q2, q3, q4⟩
  refine wpAnyZ_take [10] 1 (.bool up) rfl (by kernel_rfl) (fun _ _ _ h => h) hS0 rfl (by rintro wz ⟨y1, y2, y3, y4⟩; go_simp) ?_
  try simp only [Act.put, List.setIfInBounds_toArray, List.set_cons_zero, List.set_cons_succ]
  refine wpAnyZ_take [10] 2 (.int .i64 ap) rfl (by kernel_rfl) (fun _ _ _ h => h) hS0 rfl (by rintro wz ⟨y1, y2, y3, y4⟩; go_simp) ?_
  try simp only [Act.put, List.setIfInBounds_toArray, List.set_cons_zero, List.set_cons_succ]
  refine wpAnyZ_take [10] 3 (.int .i64 (ptN m pc : Nat)) rfl (by kernel_rfl) (fun _ _ _ h => h) hS0 rfl (by rintro wz ⟨y1, y2, y3, y4⟩; go_simp) ?_
  try simp only [Act.put, List.setIfInBounds_toArray, List.set_cons_zero, List.set_cons_succ]
  refine wpAnyZ_take [10] 4 (.int .i64 (ct : Int)) rfl (by kernel_rfl) (fun _ _ _ h => h) hS0 rfl (by rintro wz ⟨y1, y2, y3, y4⟩; go_simp) ?_
  try simp only [Act.put, List.setIfInBounds_toArray, List.set_cons_zero, List.set_cons_succ]
  refine wpAnyZ_take [10] 0 (.slice ao m co) rfl (by kernel_rfl) (fun _ _ _ h => h) hS0 rfl (by rintro wz ⟨y1, y2, y3, y4⟩; go_simp) ?_
  try simp only [Act.put, List.setIfInBounds_toArray, List.set_cons_zero, List.set_cons_succ]
  refine wpAnyZ_take [10] 5 (.slice (some ⟨b, off, none⟩) n c) rfl (by kernel_rfl) (fun _ _ _ h => h) hS0 rfl (by rintro wz ⟨y1, y2, y3, y4⟩; go_simp) ?_
  try simp only [Act.put, List.setIfInBounds_toArray, List.set_cons_zero, List.set_cons_succ]
  have D1 := hD.keep (grown_drew w none)
  refine wpAnyZ_one 6 rfl (by kernel_rfl) (fun K hK => ?_)
  go_simp
  go_at_call 18
  with_reducible refine (pclone_any b off n c D _ D1 h0 hn).mono ?_
  rintro e w1 ⟨g1, c1, rfl, hA1, g1'⟩
  have G1 := grown_trans (grown_drew w none) g1'
  have o1 := h.out.keep G1 (by simp)
  have p1 := h.pcs.keep G1 (by simp)
  have u1 := h.upb.keep G1 (by simp)
  have a1 := h.apb.keep G1 (by simp)
  have n1 := h.cnt.keep G1 (by simp)
  have hS1 : (w1.cell? ⟨go, 0, none⟩ = some (.slice ao m co) ∧ w1.cell? ⟨gu, 0, none⟩ = some (.bool up) ∧ w1.cell? ⟨ga, 0, none⟩ = some (.int .i64 ap) ∧ w1.cell? ⟨gc, 0, none⟩ = some (.int .i64 (ct : Int))) := ⟨o1.cell1, u1.cell1, a1.cell1, n1.cell1⟩
  go_simp
  refine hK _ _ (fun _ => hS1) ?_
  clear hK K
  try simp only [Act.put, List.setIfInBounds_toArray, List.set_cons_zero, List.set_cons_succ]
  refine wpAnyZ_take [10] 7 (.agg #[.bool up, .bool false, .int .i64 ap, .int .i64 (ptN m pc : Nat), .int .i64 (ct : Int), .slice (some ⟨g1, 0, none⟩) n c1]) rfl (by kernel_rfl) (fun _ _ _ h => h) hS1 rfl (by rintro wz ⟨y1, y2, y3, y4⟩; go_simp) ?_
  try simp only [Act.put, List.setIfInBounds_toArray, List.set_cons_zero, List.set_cons_succ]
  have gA := World.grownBy_alloc w1 (.cells (Pk.mk up false ap (ptN m pc : Nat) ct (some ⟨g1, 0, none⟩) n c1 D).cells.toArray 33) none
  have o2 := o1.keep gA (by simp)
  have p2 := p1.keep gA (by simp)
  have u2 := u1.keep gA (by simp)
  have a2 := a1.keep gA (by simp)
  have n2 := n1.keep gA (by simp)
  have W1 := h.own.keep G1
  have W2 := W1.keep gA
  refine wpAnyZ_one 8 rfl (by kernel_rfl) (fun K hK => ?_)
  go_simp
  refine hK _ _ (fun _ => ⟨o2.cell1, u2.cell1, a2.cell1, n2.cell1⟩) ?_
  clear hK K
  try simp only [Act.put, List.setIfInBounds_toArray, List.set_cons_zero, List.set_cons_succ]
  refine wpAnyZ_one 9 rfl (by kernel_rfl) (fun K hK => ?_)
  refine step_psP w1 wb.heap.size (Pk.mk up false ap (ptN m pc : Nat) ct (some ⟨g1, 0, none⟩) n c1 D) rfl _ _ rfl ao m co ps rfl W1 (Nat.le_trans h.grown.size G1.size) rfl (by omega) ?_
  intro gx cx w3 W3 g3 hgx
  have kne : ∀ {q : Nat} {t : TypeId} {B : Array Value}, BxS w1 q t B → 33 ≠ t → some q ≠ (Value.slice ao m co).ownBlock := fun hq ht e => W1.apart hq ht e.symm
  have o3 := o1.keep g3 (kne o1 (by decide))
  have p3 := p1.keep g3 (kne p1 (by decide))
  have u3 := u1.keep g3 (kne u1 (by decide))
  have a3 := a1.keep g3 (kne a1 (by decide))
  have n3 := n1.keep g3 (kne n1 (by decide))
  refine hK _ _ (fun _ => ⟨o3.cell1, u3.cell1, a3.cell1, n3.cell1⟩) ?_
  clear hK K
  try simp only [Act.put, List.setIfInBounds_toArray, List.set_cons_zero, List.set_cons_succ]
  have oc := o3.cell1
  have of := o3.free 0
  refine wpAnyZ_one 10 rfl (by kernel_rfl) (fun K hK => ?_)
  go_simp
  refine hK _ _ (fun e => absurd (by decide) e) ?_
  clear hK K
  refine wpAnyZ_done (by kernel_rfl) ?_ _
  have E1 := hA1.wide (Nat.le_trans h.grown.size (Nat.le_refl _) : wb.heap.size ≤ w.drew.heap.size)
  have bne : ∀ {a : Option Addr} {n c : Nat} {L : List Nat} {lo : Nat}, Ans w1 lo a n c L → (Value.slice a n c).ownBlock = none ∨ (Value.slice a n c).ownBlock ≠ (Value.slice ao m co).ownBlock := by
    intro a n c L lo ha
    rcases W1.own.2 with ⟨k1, _⟩ | ⟨q, cq, cur, k1, _, kh, _⟩
    · simp only [Value.slice.injEq] at k1
      obtain ⟨rfl, rfl, rfl⟩ := k1
      simp [Value.ownBlock]
      cases a <;> simp
    · simp only [Value.slice.injEq] at k1
      obtain ⟨rfl, _, _⟩ := k1
      exact .inr (ha.apart (show BxS w1 q 33 cur from kh) (by decide))
  have g4 := grown_set w3 go 0 (.slice (some ⟨gx, 0, none⟩) (m + 1) cx)
  have o4 : BxS (w3.setCell ⟨go, 0, none⟩ (.slice (some ⟨gx, 0, none⟩) (m + 1) cx)) go 24 #[.slice (some ⟨gx, 0, none⟩) (m + 1) cx] := o3.set 0 _
  have p4 := p3.keep g4 (fun e => p3.apart o3 (by decide) (Option.some.inj e))
  have u4 := u3.keep g4 (fun e => u3.apart o3 (by decide) (Option.some.inj e))
  have a4 := a3.keep g4 (fun e => a3.apart o3 (by decide) (Option.some.inj e))
  have n4 := n3.keep g4 (fun e => n3.apart o3 (by decide) (Option.some.inj e))
  have W4 := W3.kept g4 (.inr (W3.apart o3 (by decide)))
  have E3 := E1.kept g3 (bne E1)
  have E4 := E3.kept g4 (.inr (E3.apart o3 (by decide)))
  have F3 : ∀ i (hi : i < ps.length), Ans w3 wb.heap.size ps[i].a ps[i].n ps[i].c ps[i].D := fun i hi => ((h.data i hi).keep G1).kept g3 (bne ((h.data i hi).keep G1))
  have F4 : ∀ i (hi : i < ps.length), Ans (w3.setCell ⟨go, 0, none⟩ (.slice (some ⟨gx, 0, none⟩) (m + 1) cx)) wb.heap.size ps[i].a ps[i].n ps[i].c ps[i].D := fun i hi => (F3 i hi).kept g4 (.inr ((F3 i hi).apart o3 (by decide)))
  have GG := grown_far (grown_far (grown_trans h.grown G1) g3 (fun q e => W1.new q e)) g4 (fun q e => by cases e; exact h.nout)
  generalize w3.setCell ⟨go, 0, none⟩ (.slice (some ⟨gx, 0, none⟩) (m + 1) cx) = w4 at o4 p4 u4 a4 n4 W4 E4 F4 GG ⊢
  have nc := n4.cell1
  have nf := n4.free 0
  have hq : Hid (((ct + 1) % 16384 : Nat) = ((ct : Int) + 1) % 16384) := (by omega : ((((ct + 1) % 16384 : Nat) : Int)) = ((ct : Int) + 1) % 16384)
  go_wp2_with (first
    | (go_at_call 19; with_reducible refine (countNext_any (ct : Int) (((ct + 1) % 16384 : Nat) : Int) hq (by omega) (by omega) _).mono ?_; rintro e w' ⟨rfl, hw'⟩; replace hw' := hw'.symm; subst hw'))
  have g5 := grown_set w4 gc 0 (.int .i64 (((ct + 1) % 16384 : Nat) : Int))
  have n5 : BxS (w4.setCell ⟨gc, 0, none⟩ (.int .i64 (((ct + 1) % 16384 : Nat) : Int))) gc 3 #[.int .i64 (((ct + 1) % 16384 : Nat) : Int)] := n4.set 0 _
  go_end0
  refine ⟨_, _, _, _, rfl, ⟨o4.keep g5 (fun e => o4.apart n4 (by decide) (Option.some.inj e)), p4.keep g5 (fun e => h.pne (Option.some.inj e)), u4.keep g5 (fun e => u4.apart n4 (by decide) (Option.some.inj e)), a4.keep g5 (fun e => h.ane (Option.some.inj e)), n5, W4.kept g5 (.inr (W4.apart n4 (by decide))), h.pne, h.ane, h.nout, h.ncnt, ?_, ?_, grown_far GG g5 (fun q e => by cases e; exact h.ncnt)⟩⟩
  · intro i hi
    rw [List.length_append, List.length_singleton] at hi
    by_cases hlt : i < ps.length
    · rw [List.getElem_append_left hlt]
      exact (F4 i hlt).kept g5 (.inr ((F4 i hlt).apart n4 (by decide)))
    · have : i = ps.length := by omega
      subst this
      rw [List.getElem_append_right (Nat.le_refl _)]
      simp only [Nat.sub_self, List.getElem_cons_zero]
      exact E4.kept g5 (.inr (E4.apart n4 (by decide)))
  · intro i j hi hj hij
    rw [List.length_append, List.length_singleton] at hi hj
    by_cases hlt : j < ps.length
    · rw [List.getElem_append_left hlt, List.getElem_append_left (show i < ps.length by omega)]
      exact h.apart i j (by omega) hlt hij
    · have : j = ps.length := by omega
      subst this
      rw [List.getElem_append_left hij, List.getElem_append_right (Nat.le_refl _)]
      simp only [Nat.sub_self, List.getElem_cons_zero]
      intro e
      have q1 : w.heap.size ≤ g1 := hA1.new g1 rfl
      rcases (h.data i hij).cases with ⟨k1, _, _⟩ | ⟨ga', k1, _, k2⟩
      · rw [k1] at e; simp [Value.ownBlock] at e
      · rw [k1] at e; simp [Value.ownBlock] at e; omega

theorem somez_any (z : Int) (w : World) : Calls Try.prog 14 #[.int .i64 z] w fun e w' => e = .returned (.bool (decide (0 ≤ z ∧ z ≤ 2046))) ∧ w' = w := by
  by_cases h : 0 ≤ z ∧ z ≤ 2046
  · rw [decide_eq_true h]
    go_enter Try.func14, Try.ntmps14
    go_wp2_with (go_at_call 15; refine (within_t _ _ h _).mono ?_; rintro e wx ⟨rfl, hw⟩; have hw := hw.symm; subst hw)
    go_ret
    exact ⟨rfl, rfl⟩
  · rw [decide_eq_false h]
    go_enter Try.func14, Try.ntmps14
    go_wp2_with (go_at_call 15; refine (within_f _ _ h _).mono ?_; rintro e wx ⟨rfl, hw⟩; have hw := hw.symm; subst hw)
    go_ret
    exact ⟨rfl, rfl⟩
/-- how many pieces -/
def pcN (n M : Nat) : Nat := (n + M - 1) / M
theorem pcN_le (n M : Nat) (hM : 1 ≤ M) : n ≤ pcN n M * M ∧ pcN n M * M ≤ n + M - 1 := by
  have h1 := Nat.div_add_mod (n + M - 1) M
  have h2 := Nat.mod_lt (n + M - 1) (show M > 0 by omega)
  unfold pcN
  rw [Nat.mul_comm] at h1
  generalize (n + M - 1) / M * M = q at *
  omega
theorem pcN_last (n M k : Nat) (hM : 1 ≤ M) (h1 : k * M < n) (h2 : n ≤ k * M + M) : pcN n M = k + 1 := by
  obtain ⟨a1, a2⟩ := pcN_le n M hM
  have b1 : k < pcN n M := by
    apply Nat.lt_of_not_le; intro h
    have := Nat.mul_le_mul_right M h
    omega
  have b2 : pcN n M < k + 2 := by
    apply Nat.lt_of_not_le; intro h
    have := Nat.mul_le_mul_right M h
    rw [Nat.add_mul] at this
    omega
  omega
theorem pcN_lt (n M k : Nat) (hM : 1 ≤ M) (h1 : k * M < n) : k < pcN n M := by
  obtain ⟨a1, a2⟩ := pcN_le n M hM
  apply Nat.lt_of_not_le; intro h
  have := Nat.mul_le_mul_right M h
  omega
/-- what the pieces of a unit are -/
def PcL (up : Bool) (ap : Int) (pc ct M : Nat) (L : List Nat) (ps : List Pk) : Prop := ∀ i (h : i < ps.length), ps[i].up = up ∧ ps[i].se = false ∧ ps[i].ap = ap ∧ ps[i].pt = (ptN i pc : Nat) ∧ ps[i].ct = (((ct + i) % 16384 : Nat) : Int) ∧ ps[i].D = (L.drop (i * M)).take M
theorem PcL.add {up : Bool} {ap : Int} {pc ct M : Nat} {L : List Nat} {ps : List Pk} (h : PcL up ap pc ct M L ps) (a : Option Addr) (n c : Nat) (D : List Nat) (hD : D = (L.drop (ps.length * M)).take M) (q : Int) (hq : q = (((ct + ps.length) % 16384 : Nat) : Int)) (pt : Int) (hp : pt = (ptN ps.length pc : Nat)) : PcL up ap pc ct M L (ps ++ [⟨up, false, ap, pt, q, a, n, c, D⟩]) := by
  intro i hi
  rw [List.length_append, List.length_singleton] at hi
  by_cases hlt : i < ps.length
  · rw [List.getElem_append_left hlt]; exact h i hlt
  · have : i = ps.length := by omega
    subst this
    rw [List.getElem_append_right (Nat.le_refl _)]
    simp only [Nat.sub_self, List.getElem_cons_zero]
    exact ⟨trivial, trivial, trivial, hp, hq, hD⟩
/-- packets in a row of the call's own, their data in rows of their own -/
structure OwD (w : World) (lo : Nat) (a : Option Addr) (n c : Nat) (ps : List Pk) : Prop where
  own : OwP w lo a n c ps
  data : ∀ i (h : i < ps.length), Ans w lo ps[i].a ps[i].n ps[i].c ps[i].D
  apart : ∀ i j (hi : i < ps.length) (hj : j < ps.length), i < j → (Value.slice ps[i].a ps[i].n ps[i].c).ownBlock ≠ (Value.slice ps[j].a ps[j].n ps[j].c).ownBlock
/-- 'make([]api.Packet, 0, pc)' -/
theorem wpList_mkP (w : World) {ops : Array Oper} {rest : List Oper} {o : Oper} {a : Act} {Q : Exit → Act → World → Prop} (hg : o.guard = none) (l c : Operand)
    (hop : o.op = Op.makeSlice 24 l c) (C : Int) (n : Nat) (hl : a.eval l = .int .i64 0) (hc : a.eval c = .int .i64 C) (hC : C = (n : Int)) (hn : n ≤ 16384)
    (hK : ∀ w', OwP w' w.heap.size (some ⟨w.heap.size, 0, none⟩) 0 n [] → w.grownBy w' none → wpList Try.prog ops Q rest (a.put o.dst (.slice (some ⟨w.heap.size, 0, none⟩) 0 n)) w') :
    wpList Try.prog ops Q (o :: rest) a w := by
  obtain ⟨i0, hi, hz0, hz1, hz2⟩ := info_parts Try.info_pk3
  refine wpList_make_own w hg l c 24 hop w.heap.size 33 i0 _ 6 Try.underlying24 hi hz0 hz1 .i64 .i64 C n hl hc hC (by rw [hz2]; omega) (by unfold maxLen; omega) (Nat.le_refl _) ?_
  intro w' hown hgr
  exact hK w' ⟨own_baseG hown, rfl, fun g h => by have e : w.heap.size = g := Option.some.inj h; omega⟩ hgr
def slN : Value → Nat | .slice _ n _ => n | _ => 0
def ceI (x : Int) : Int := x
set_option maxHeartbeats 16000000 in
theorem cut_ok (up : Bool) (ap : Int) (ct : Nat) (b off n c M : Nat) (L : List Nat) (w : World) (hL : Rd w (some ⟨b, off, none⟩) n c L) (hap : 0 ≤ ap ∧ ap ≤ 2046) (hct : ct ≤ 16383) (hn1 : 1 ≤ n) (hn2 : n ≤ 1048576) (hM1 : 1 ≤ M) (hM2 : M ≤ 65536) (hpc : pcN n M ≤ 16384) :
    Calls Try.prog 7 #[.bool up, .int .i64 ap, .int .i64 (ct : Int), .slice (some ⟨b, off, none⟩) n c, .int .i64 (M : Int)] w fun e w' => ∃ ao co ps, e = .returned (.tuple #[.slice ao (pcN n M) co, .int .i64 0]) ∧ OwD w' w.heap.size ao (pcN n M) co ps ∧ PcL up ap (pcN n M) ct M L ps ∧ w.grownBy w' none := by
  have hsm := fun wz => somez_any ap wz
  rw [decide_eq_true hap] at hsm
  have hwi := fun wz => within_t (ct : Int) 16383 (by omega) wz
  have d1 : (((n : Int) == 0) : Bool) = false := by simp; omega
  have d2 : ¬ ((1048576 : Int) < (n : Int)) := by omega
  have d3 : ¬ ((M : Int) < 1) := by omega
  have d4 : ¬ ((65536 : Int) < (M : Int)) := by omega
  have hle := hL.le
  have hdiv : ((n : Int) + (M : Int) - 1) / (M : Int) = ((pcN n M : Nat) : Int) := by
    unfold pcN
    rw [Int.natCast_ediv]
    congr 1
    omega
  have PL := pcN_last n M
  have PT := pcN_lt n M
  obtain ⟨pc, hpcE⟩ : ∃ pc, pc = pcN n M := ⟨_, rfl⟩
  rw [← hpcE] at hdiv hpc PL PT ⊢
  clear hpcE
  have d5 : ¬ ((16384 : Int) < (pc : Int)) := by omega
  go_enter Try.func7, Try.ntmps7
  go_wp2_with (first
    | (go_at_call 14; with_reducible refine (hsm _).mono ?_; rintro e w' ⟨rfl, hw'⟩; replace hw' := hw'.symm; subst hw')
    | (go_at_call 15; with_reducible refine (hwi _).mono ?_; rintro e w' ⟨rfl, hw'⟩; replace hw' := hw'.symm; subst hw')
    | (refine wpList_mkP _ rfl _ _ rfl _ pc rfl rfl (by first | rfl | exact hdiv) hpc ?_; intro wE hO gE))
  have gA := World.grownBy_alloc w (.cells #[.bool up] 4) none
  have bu := BxS.new w 4 #[.bool up]
  generalize hwA : w.alloc (.cells #[.bool up] 4) = wA at gA bu
  have sA : wA.heap.size = w.heap.size + 1 := by rw [← hwA]; simp
  have gB := World.grownBy_alloc wA (.cells #[.int .i64 ap] 3) none
  have ba := BxS.new wA 3 #[.int .i64 ap]
  generalize hwB : wA.alloc (.cells #[.int .i64 ap] 3) = wB at gB ba
  have sB : wB.heap.size = wA.heap.size + 1 := by rw [← hwB]; simp
  have gC := World.grownBy_alloc wB (.cells #[.int .i64 (ct : Int)] 3) none
  have bc := BxS.new wB 3 #[.int .i64 (ct : Int)]
  generalize hwC : wB.alloc (.cells #[.int .i64 (ct : Int)] 3) = wC at gC bc
  have sC : wC.heap.size = wB.heap.size + 1 := by rw [← hwC]; simp
  have gD := World.grownBy_alloc wC (.cells #[.int .i64 (pc : Int)] 3) none
  have bp := BxS.new wC 3 #[.int .i64 (pc : Int)]
  generalize hwD : wC.alloc (.cells #[.int .i64 (pc : Int)] 3) = wD at gD bp
  have sD : wD.heap.size = wC.heap.size + 1 := by rw [← hwD]; simp
  have G4 := grown_trans (grown_trans (grown_trans gA gB) gC) gD
  have bu4 := bu.keep (grown_trans (grown_trans gB gC) gD) (by simp)
  have ba4 := ba.keep (grown_trans gC gD) (by simp)
  have bc4 := bc.keep gD (by simp)
  have hO' : OwP wE wD.heap.size (some ⟨wD.heap.size, 0, none⟩) 0 pc [] := by
    rw [← hwD, ← hwC, ← hwB, ← hwA]; simpa [hdiv] using hO
  have gE' : wD.grownBy wE none := by
    rw [← hwD, ← hwC, ← hwB, ← hwA]; simpa [hdiv] using gE
  clear hO gE
  have gF := World.grownBy_alloc wE (.cells #[.slice (some ⟨wD.heap.size, 0, none⟩) 0 pc] 24) none
  have bo := BxS.new wE 24 #[.slice (some ⟨wD.heap.size, 0, none⟩) 0 pc]
  have gEF := grown_trans gE' gF
  have GF := grown_trans G4 gEF
  have es : wD.heap.size = w.heap.size + 1 + 1 + 1 + 1 := by omega
  have hC0 : CuS w (wE.alloc (.cells #[.slice (some ⟨wD.heap.size, 0, none⟩) 0 pc] 24)) wE.heap.size (w.heap.size + 1 + 1 + 1) w.heap.size (w.heap.size + 1) (w.heap.size + 1 + 1) up ap pc ct (some ⟨wD.heap.size, 0, none⟩) 0 pc [] := by
    refine ⟨bo, ?_, bu4.keep gEF (by simp), ?_, ?_, ?_, by omega, by omega, ?_, by omega, fun i h => absurd h (by simp), fun i j h => absurd h (by simp), GF⟩
    · have := bp.keep gEF (by simp); rwa [show wC.heap.size = w.heap.size + 1 + 1 + 1 by omega] at this
    · have := ba4.keep gEF (by simp); rwa [show wA.heap.size = w.heap.size + 1 by omega] at this
    · have := bc4.keep gEF (by simp); rwa [show wB.heap.size = w.heap.size + 1 + 1 by omega] at this
    · have h5 := hO'.keep gF
      exact ⟨h5.own, h5.len, fun g hg => Nat.le_trans (by omega) (h5.new g hg)⟩
    · have := gE'.size; omega
  have hsz : (((w.alloc (.cells #[.bool up] 4)).alloc (.cells #[.int .i64 ap] 3)).alloc (.cells #[.int .i64 (ct : Int)] 3)).heap.size + 1 = wD.heap.size := by rw [hwA, hwB, hwC]; omega
  have e4 : w.heap.size + 1 + 1 + 1 + 1 = wD.heap.size := es.symm
  simp only [e4]
  clear hwA hwB hwC hwD hsz sA sB sC sD bu ba bc bp bu4 ba4 bc4 gA gB gC gD es e4
  generalize wE.alloc (.cells #[.slice (some ⟨wD.heap.size, 0, none⟩) 0 pc] 24) = wF at hC0 ⊢
  go_loopw [3] (fun u wr => ∃ (k of n' c' : Nat) (ao : Option Addr) (co : Nat) (ps : List Pk), u = .slice (some ⟨b, of, none⟩) n' c' ∧ k * M + n' = n ∧ 1 ≤ n' ∧ Rd w (some ⟨b, of, none⟩) n' c' (L.drop (k * M)) ∧ CuS w wr wE.heap.size (w.heap.size + 1 + 1 + 1) w.heap.size (w.heap.size + 1) (w.heap.size + 1 + 1) up ap pc ((ct + k) % 16384) ao k co ps ∧ PcL up ap pc ct M L ps) (fun u _ => slN u)
  case atStart => exact ⟨0, off, n, c, _, _, [], rfl, by omega, hn1, by rw [Nat.zero_mul, List.drop_zero]; exact hL, by rw [Nat.add_zero, Nat.mod_eq_of_lt (by omega)]; exact hC0, fun i h => absurd h (by simp)⟩
  case round =>
    obtain ⟨k, of, n', c', ao, co, ps, rfl, hk, hn', hR, hC, hP⟩ := hrel
    have hkl := PT k hM1 (by omega)
    have hlen : ps.length = k := hC.own.len
    have hle' := hR.le
    by_cases hlt : M < n'
    · have l1 : (M : Int) < (n' : Int) := by omega
      have hpi := hR.part 0 M (by omega)
      rw [Nat.add_zero, Nat.sub_zero, List.drop_zero] at hpi
      have hrest := hR.part M (n' - M) (by omega)
      rw [List.take_of_length_le (by rw [List.length_drop, hR.len]; omega), List.drop_drop] at hrest
      have s1 : (M : Int) ≤ (c' : Int) := by omega
      have s2 : (M : Int) ≤ (n' : Int) := by omega
      have s3 : (n' : Int) ≤ (c' : Int) := by omega
      have hput := put_any w wr _ _ _ _ _ up ap pc _ ao k co ps hC b of M c' _ (hpi.keep hC.grown) (by omega) (by omega) (by omega) hpc (by omega) (by omega)
      go_wp2_with (first
        | (go_at_call 16; with_reducible refine hput.mono ?_; rintro e w6 ⟨ao6, co6, a6, c6, rfl, hC6⟩))
      have hmo : ((ct + k) % 16384 + 1) % 16384 = (ct + (k + 1)) % 16384 := by omega
      rw [hmo] at hC6
      go_roundw
      case rel => exact ⟨k + 1, of + M, n' - M, c' - M, ao6, co6, _, by first | rfl | go_num, by rw [Nat.add_mul]; omega, by omega, by rw [Nat.add_mul, Nat.one_mul]; exact hrest, hC6, hP.add a6 M c6 _ (by rw [hlen]) _ (by rw [hlen]) _ (by rw [hlen])⟩
      case measure => simp [slN]; omega
    · have l1 : ¬ ((M : Int) < (n' : Int)) := by omega
      have hpi := hR.keep hC.grown
      have hput := put_any w wr _ _ _ _ _ up ap pc _ ao k co ps hC b of n' c' _ hpi (by omega) (by omega) (by omega) hpc (by omega) (by omega)
      go_wp2_with (first
        | (go_at_call 16; with_reducible refine hput.mono ?_; rintro e w6 ⟨ao6, co6, a6, c6, rfl, hC6⟩; have oc6 := hC6.out.cell1))
      go_ret2
      have hend := PL k hM1 (by omega) (by omega)
      subst hend
      refine ⟨ao6, co6, _, rfl, ⟨hC6.own, hC6.data, hC6.apart⟩, hP.add a6 n' c6 _ ?_ _ (by rw [hlen]) _ (by rw [hlen]), hC6.grown⟩
      rw [hlen, List.take_of_length_le (by rw [hR.len]; omega)]
/-- why a unit may not be cut -/
def cuE (ap ct : Int) (n : Nat) (mo : Int) : Nat := if ¬ (0 ≤ ap ∧ ap ≤ 2046) ∨ ¬ (0 ≤ ct ∧ ct ≤ 16383) then 2 else if n = 0 ∨ 1048576 < n ∨ mo < 1 ∨ 65536 < mo ∨ 16384 < (n + mo - 1) / mo then 1 else 0
set_option maxHeartbeats 16000000 in
theorem cut_bad (up : Bool) (ap ct : Int) (a : Option Addr) (n c : Nat) (mo : Int) (L : List Nat) (w : World) (hL : Rd w a n c L) (hE : cuE ap ct n mo ≠ 0) :
    Calls Try.prog 7 #[.bool up, .int .i64 ap, .int .i64 ct, .slice a n c, .int .i64 mo] w fun e w' => e = .returned (.tuple #[.slice none 0 0, .int .i64 (cuE ap ct n mo : Nat)]) ∧ w.grownBy w' none := by
  have hG : ∀ v t, w.grownBy (w.alloc (.cells #[v] t)) none := fun v t => World.grownBy_alloc w _ none
  have hG3 : ∀ (wz : World) v t, w.grownBy wz none → w.grownBy (wz.alloc (.cells #[v] t)) none := fun wz v t h => grown_trans h (World.grownBy_alloc wz _ none)
  by_cases h1 : 0 ≤ ap ∧ ap ≤ 2046
  · have hsm := fun wz => somez_any ap wz
    rw [decide_eq_true h1] at hsm
    by_cases h2 : 0 ≤ ct ∧ ct ≤ 16383
    · have hwi := fun wz => within_t ct 16383 h2 wz
      by_cases h3 : n = 0 ∨ 1048576 < n ∨ mo < 1 ∨ 65536 < mo
      · have e : cuE ap ct n mo = 1 := by
          unfold cuE
          rw [if_neg (by simp [h1, h2]), if_pos]
          rcases h3 with h | h | h | h <;> simp [h]
        rw [e]
        have hb : (((n : Int) == 0) || decide ((1048576 : Int) < (n : Int)) || decide (mo < 1) || decide ((65536 : Int) < mo)) = true := by
          simp only [Bool.or_eq_true, beq_iff_eq, decide_eq_true_eq]
          omega
        go_enter Try.func7, Try.ntmps7
        go_wp2_with (first
          | (go_at_call 14; with_reducible refine (hsm _).mono ?_; rintro e w' ⟨rfl, hw'⟩; replace hw' := hw'.symm; subst hw')
          | (go_at_call 15; with_reducible refine (hwi _).mono ?_; rintro e w' ⟨rfl, hw'⟩; replace hw' := hw'.symm; subst hw'))
        all_goals
          go_ret2
          exact ⟨rfl, hG3 _ _ _ (hG3 _ _ _ (hG _ _))⟩
      · have h4 : (16384 : Int) < ((n : Int) + mo - 1) / mo := by
          apply Int.lt_of_not_ge; intro h4
          apply hE; unfold cuE
          rw [if_neg (by simp [h1, h2]), if_neg]
          omega
        have e : cuE ap ct n mo = 1 := by
          unfold cuE
          rw [if_neg (by simp [h1, h2]), if_pos (.inr (.inr (.inr (.inr h4))))]
        rw [e]
        have d1 : (((n : Int) == 0) : Bool) = false := by simp; omega
        have d2 : ¬ ((1048576 : Int) < (n : Int)) := by omega
        have d3 : ¬ (mo < 1) := by omega
        have d4 : ¬ ((65536 : Int) < mo) := by omega
        have d6 : ((n : Int) + mo - 1) / mo ≤ 1114111 := by
          refine Int.le_trans (Int.ediv_le_self _ (by omega)) (by omega)
        clear hE h3
        go_enter Try.func7, Try.ntmps7
        go_wp2_with (first
          | (go_at_call 14; with_reducible refine (hsm _).mono ?_; rintro e w' ⟨rfl, hw'⟩; replace hw' := hw'.symm; subst hw')
          | (go_at_call 15; with_reducible refine (hwi _).mono ?_; rintro e w' ⟨rfl, hw'⟩; replace hw' := hw'.symm; subst hw'))
        go_ret2
        exact ⟨rfl, hG3 _ _ _ (hG3 _ _ _ (hG3 _ _ _ (hG _ _)))⟩
    · have e : cuE ap ct n mo = 2 := by unfold cuE; rw [if_pos (.inr h2)]
      rw [e]
      have hwi := fun wz => within_f ct 16383 h2 wz
      go_enter Try.func7, Try.ntmps7
      go_wp2_with (first
        | (go_at_call 14; with_reducible refine (hsm _).mono ?_; rintro e w' ⟨rfl, hw'⟩; replace hw' := hw'.symm; subst hw')
        | (go_at_call 15; with_reducible refine (hwi _).mono ?_; rintro e w' ⟨rfl, hw'⟩; replace hw' := hw'.symm; subst hw'))
      go_ret2
      exact ⟨rfl, hG3 _ _ _ (hG3 _ _ _ (hG _ _))⟩
  · have e : cuE ap ct n mo = 2 := by unfold cuE; rw [if_pos (.inl h1)]
    rw [e]
    have hsm := fun wz => somez_any ap wz
    rw [decide_eq_false h1] at hsm
    go_enter Try.func7, Try.ntmps7
    go_wp2_with (first
      | (go_at_call 14; with_reducible refine (hsm _).mono ?_; rintro e w' ⟨rfl, hw'⟩; replace hw' := hw'.symm; subst hw'))
    go_ret2
    exact ⟨rfl, hG3 _ _ _ (hG3 _ _ _ (hG _ _))⟩
end Go.Proofs.Ytnnohgllnfmoeaa
