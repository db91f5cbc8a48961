import Derived.Test.YtnnohgllnfmoeaaPCu3
import Derived.Test.YtnnohgllnfmoeaaZRg
namespace Go.Proofs.Ytnnohgllnfmoeaa
open Go.RowKit
set_option maxRecDepth 100000
set_option linter.unusedVariables false
set_option linter.unusedSimpArgs false

set_option maxHeartbeats 8000000 in
theorem put_any (wb w : World) (go gp gu ga gc : Nat) (up : Bool) (ap : Int) (pc ct : Nat) (ao : Option Addr) (m co : Nat) (ps : List Pk) (h : CuS wb w go gp gu ga gc up ap pc ct ao m co ps)
    (b off n c : Nat) (D : List Nat) (hD : Rd w (some ⟨b, off, none⟩) n c D) (h0 : 0 < n) (hn : n ≤ 140737488355328) (hpc : 1 ≤ pc) (hpc' : pc ≤ 16384) (hm : m ≤ 16384) (hct : ct ≤ 16383) :
    Calls Try.prog 16 #[.slice (some ⟨b, off, none⟩) n c, .pointer (some ⟨go, 0, none⟩), .pointer (some ⟨gp, 0, none⟩), .pointer (some ⟨gu, 0, none⟩), .pointer (some ⟨ga, 0, none⟩), .pointer (some ⟨gc, 0, none⟩)] w fun e w' => ∃ ao' co' a' c', e = .returned (.tuple #[]) ∧ CuS wb w' go gp gu ga gc up ap pc ((ct + 1) % 16384) ao' (m + 1) co' (ps ++ [⟨up, false, ap, ptN m pc, ct, a', n, c', D⟩]) := by
  have q0 := h.out.cell1
  have q1 := h.pcs.cell1
  have q2 := h.upb.cell1
  have q3 := h.apb.cell1
  have q4 := h.cnt.cell1
  go_enter Try.func16, Try.ntmps16
  go_wp2_with (first
    | (go_at_call 17; with_reducible refine (partAt_any m pc _ hpc hpc' hm).mono ?_; rintro e w' ⟨rfl, hw'⟩; replace hw' := hw'.symm; subst hw'))
  refine wp_regionZ (fun w' => w'.cell? ⟨go, 0, none⟩ = some (.slice ao m co) ∧ w'.cell? ⟨gu, 0, none⟩ = some (.bool up) ∧ w'.cell? ⟨ga, 0, none⟩ = some (.int .i64 ap) ∧ w'.cell? ⟨gc, 0, none⟩ = some (.int .i64 (ct : Int))) 10 (by kernel_rfl) ?_
  have hS0 : (w.drew.cell? ⟨go, 0, none⟩ = some (.slice ao m co) ∧ w.drew.cell? ⟨gu, 0, none⟩ = some (.bool up) ∧ w.drew.cell? ⟨ga, 0, none⟩ = some (.int .i64 ap) ∧ w.drew.cell? ⟨gc, 0, none⟩ = some (.int .i64 (ct : Int))) := ⟨q0, q2, q3, q4⟩
  refine wpAnyZ_take [10] 1 (.bool up) rfl (by kernel_rfl) (fun _ _ _ h => h) hS0 rfl (by rintro wz ⟨y1, y2, y3, y4⟩; go_simp) ?_
  try simp only [Act.put, List.setIfInBounds_toArray, List.set_cons_zero, List.set_cons_succ]
  refine wpAnyZ_take [10] 2 (.int .i64 ap) rfl (by kernel_rfl) (fun _ _ _ h => h) hS0 rfl (by rintro wz ⟨y1, y2, y3, y4⟩; go_simp) ?_
  try simp only [Act.put, List.setIfInBounds_toArray, List.set_cons_zero, List.set_cons_succ]
  refine wpAnyZ_take [10] 3 (.int .i64 (ptN m pc : Nat)) rfl (by kernel_rfl) (fun _ _ _ h => h) hS0 rfl (by rintro wz ⟨y1, y2, y3, y4⟩; go_simp) ?_
  try simp only [Act.put, List.setIfInBounds_toArray, List.set_cons_zero, List.set_cons_succ]
  refine wpAnyZ_take [10] 4 (.int .i64 (ct : Int)) rfl (by kernel_rfl) (fun _ _ _ h => h) hS0 rfl (by rintro wz ⟨y1, y2, y3, y4⟩; go_simp) ?_
  try simp only [Act.put, List.setIfInBounds_toArray, List.set_cons_zero, List.set_cons_succ]
  refine wpAnyZ_take [10] 0 (.slice ao m co) rfl (by kernel_rfl) (fun _ _ _ h => h) hS0 rfl (by rintro wz ⟨y1, y2, y3, y4⟩; go_simp) ?_
  try simp only [Act.put, List.setIfInBounds_toArray, List.set_cons_zero, List.set_cons_succ]
  refine wpAnyZ_take [10] 5 (.slice (some ⟨b, off, none⟩) n c) rfl (by kernel_rfl) (fun _ _ _ h => h) hS0 rfl (by rintro wz ⟨y1, y2, y3, y4⟩; go_simp) ?_
  try simp only [Act.put, List.setIfInBounds_toArray, List.set_cons_zero, List.set_cons_succ]
  have D1 := hD.keep (grown_drew w none)
  refine wpAnyZ_one 6 rfl (by kernel_rfl) (fun K hK => ?_)
  go_simp
  go_at_call 18
  with_reducible refine (pclone_any b off n c D _ D1 h0 hn).mono ?_
  rintro e w1 ⟨g1, c1, rfl, hA1, g1'⟩
  have G1 := grown_trans (grown_drew w none) g1'
  have o1 := h.out.keep G1 (by simp)
  have p1 := h.pcs.keep G1 (by simp)
  have u1 := h.upb.keep G1 (by simp)
  have a1 := h.apb.keep G1 (by simp)
  have n1 := h.cnt.keep G1 (by simp)
  have hS1 : (w1.cell? ⟨go, 0, none⟩ = some (.slice ao m co) ∧ w1.cell? ⟨gu, 0, none⟩ = some (.bool up) ∧ w1.cell? ⟨ga, 0, none⟩ = some (.int .i64 ap) ∧ w1.cell? ⟨gc, 0, none⟩ = some (.int .i64 (ct : Int))) := ⟨o1.cell1, u1.cell1, a1.cell1, n1.cell1⟩
  go_simp
  refine hK _ _ (fun _ => hS1) ?_
  clear hK K
  try simp only [Act.put, List.setIfInBounds_toArray, List.set_cons_zero, List.set_cons_succ]
  refine wpAnyZ_take [10] 7 (.agg #[.bool up, .bool false, .int .i64 ap, .int .i64 (ptN m pc : Nat), .int .i64 (ct : Int), .slice (some ⟨g1, 0, none⟩) n c1]) rfl (by kernel_rfl) (fun _ _ _ h => h) hS1 rfl (by rintro wz ⟨y1, y2, y3, y4⟩; go_simp) ?_
  try simp only [Act.put, List.setIfInBounds_toArray, List.set_cons_zero, List.set_cons_succ]
  have gA := World.grownBy_alloc w1 (.cells (Pk.mk up false ap (ptN m pc : Nat) ct (some ⟨g1, 0, none⟩) n c1 D).cells.toArray 33) none
  have o2 := o1.keep gA (by simp)
  have p2 := p1.keep gA (by simp)
  have u2 := u1.keep gA (by simp)
  have a2 := a1.keep gA (by simp)
  have n2 := n1.keep gA (by simp)
  have W1 := h.own.keep G1
  have W2 := W1.keep gA
  refine wpAnyZ_one 8 rfl (by kernel_rfl) (fun K hK => ?_)
  go_simp
  refine hK _ _ (fun _ => ⟨o2.cell1, u2.cell1, a2.cell1, n2.cell1⟩) ?_
  clear hK K
  try simp only [Act.put, List.setIfInBounds_toArray, List.set_cons_zero, List.set_cons_succ]
  refine wpAnyZ_one 9 rfl (by kernel_rfl) (fun K hK => ?_)
  refine step_psP w1 wb.heap.size (Pk.mk up false ap (ptN m pc : Nat) ct (some ⟨g1, 0, none⟩) n c1 D) rfl _ _ rfl ao m co ps rfl W1 (Nat.le_trans h.grown.size G1.size) rfl (by omega) ?_
  intro gx cx w3 W3 g3 hgx
  have kne : ∀ {q : Nat} {t : TypeId} {B : Array Value}, BxS w1 q t B → 33 ≠ t → some q ≠ (Value.slice ao m co).ownBlock := fun hq ht e => W1.apart hq ht e.symm
  have o3 := o1.keep g3 (kne o1 (by decide))
  have p3 := p1.keep g3 (kne p1 (by decide))
  have u3 := u1.keep g3 (kne u1 (by decide))
  have a3 := a1.keep g3 (kne a1 (by decide))
  have n3 := n1.keep g3 (kne n1 (by decide))
  refine hK _ _ (fun _ => ⟨o3.cell1, u3.cell1, a3.cell1, n3.cell1⟩) ?_
  clear hK K
  try simp only [Act.put, List.setIfInBounds_toArray, List.set_cons_zero, List.set_cons_succ]
  have oc := o3.cell1
  have of := o3.free 0
  refine wpAnyZ_one 10 rfl (by kernel_rfl) (fun K hK => ?_)
  go_simp
  refine hK _ _ (fun e => absurd rfl e) ?_
  clear hK K
  refine wpAnyZ_done (by kernel_rfl) ?_ _
  have E1 := hA1.wide (Nat.le_trans h.grown.size (Nat.le_refl _) : wb.heap.size ≤ w.drew.heap.size)
  have bne : ∀ {a : Option Addr} {n c : Nat} {L : List Nat} {lo : Nat}, Ans w1 lo a n c L → (Value.slice a n c).ownBlock = none ∨ (Value.slice a n c).ownBlock ≠ (Value.slice ao m co).ownBlock := by
    intro a n c L lo ha
    rcases W1.own.2 with ⟨k1, _⟩ | ⟨q, cq, cur, k1, _, kh, _⟩
    · simp only [Value.slice.injEq] at k1
      obtain ⟨rfl, rfl, rfl⟩ := k1
      simp [Value.ownBlock]
      cases a <;> simp
    · simp only [Value.slice.injEq] at k1
      obtain ⟨rfl, _, _⟩ := k1
      exact .inr (ha.apart (show BxS w1 q 33 cur from kh) (by decide))
  have g4 := grown_set w3 go 0 (.slice (some ⟨gx, 0, none⟩) (m + 1) cx)
  have o4 : BxS (w3.setCell ⟨go, 0, none⟩ (.slice (some ⟨gx, 0, none⟩) (m + 1) cx)) go 24 #[.slice (some ⟨gx, 0, none⟩) (m + 1) cx] := o3.set 0 _
  have p4 := p3.keep g4 (fun e => p3.apart o3 (by decide) (Option.some.inj e))
  have u4 := u3.keep g4 (fun e => u3.apart o3 (by decide) (Option.some.inj e))
  have a4 := a3.keep g4 (fun e => a3.apart o3 (by decide) (Option.some.inj e))
  have n4 := n3.keep g4 (fun e => n3.apart o3 (by decide) (Option.some.inj e))
  have W4 := W3.kept g4 (.inr (W3.apart o3 (by decide)))
  have E3 := E1.kept g3 (bne E1)
  have E4 := E3.kept g4 (.inr (E3.apart o3 (by decide)))
  have F3 : ∀ i (hi : i < ps.length), Ans w3 wb.heap.size ps[i].a ps[i].n ps[i].c ps[i].D := fun i hi => ((h.data i hi).keep G1).kept g3 (bne ((h.data i hi).keep G1))
  have F4 : ∀ i (hi : i < ps.length), Ans (w3.setCell ⟨go, 0, none⟩ (.slice (some ⟨gx, 0, none⟩) (m + 1) cx)) wb.heap.size ps[i].a ps[i].n ps[i].c ps[i].D := fun i hi => (F3 i hi).kept g4 (.inr ((F3 i hi).apart o3 (by decide)))
  have GG := grown_far (grown_far (grown_trans h.grown G1) g3 (fun q e => W1.new q e)) g4 (fun q e => by cases e; exact h.nout)
  generalize w3.setCell ⟨go, 0, none⟩ (.slice (some ⟨gx, 0, none⟩) (m + 1) cx) = w4 at o4 p4 u4 a4 n4 W4 E4 F4 GG ⊢
  have nc := n4.cell1
  have nf := n4.free 0
  have hq : Hid (((ct + 1) % 16384 : Nat) = ((ct : Int) + 1) % 16384) := (by omega : ((((ct + 1) % 16384 : Nat) : Int)) = ((ct : Int) + 1) % 16384)
  go_wp2_with (first
    | (go_at_call 19; with_reducible refine (countNext_any (ct : Int) (((ct + 1) % 16384 : Nat) : Int) hq (by omega) (by omega) _).mono ?_; rintro e w' ⟨rfl, hw'⟩; replace hw' := hw'.symm; subst hw'))
  have g5 := grown_set w4 gc 0 (.int .i64 (((ct + 1) % 16384 : Nat) : Int))
  have n5 : BxS (w4.setCell ⟨gc, 0, none⟩ (.int .i64 (((ct + 1) % 16384 : Nat) : Int))) gc 3 #[.int .i64 (((ct + 1) % 16384 : Nat) : Int)] := n4.set 0 _
  go_end0
  refine ⟨_, _, _, _, rfl, ⟨o4.keep g5 (fun e => o4.apart n4 (by decide) (Option.some.inj e)), p4.keep g5 (fun e => h.pne (Option.some.inj e)), u4.keep g5 (fun e => u4.apart n4 (by decide) (Option.some.inj e)), a4.keep g5 (fun e => h.ane (Option.some.inj e)), n5, W4.kept g5 (.inr (W4.apart n4 (by decide))), h.pne, h.ane, h.nout, h.ncnt, ?_, ?_, grown_far GG g5 (fun q e => by cases e; exact h.ncnt)⟩⟩
  · intro i hi
    rw [List.length_append, List.length_singleton] at hi
    by_cases hlt : i < ps.length
    · rw [List.getElem_append_left hlt]
      exact (F4 i hlt).kept g5 (.inr ((F4 i hlt).apart n4 (by decide)))
    · have : i = ps.length := by omega
      subst this
      rw [List.getElem_append_right (Nat.le_refl _)]
      simp only [Nat.sub_self, List.getElem_cons_zero]
      exact E4.kept g5 (.inr (E4.apart n4 (by decide)))
  · intro i j hi hj hij
    rw [List.length_append, List.length_singleton] at hi hj
    by_cases hlt : j < ps.length
    · rw [List.getElem_append_left hlt, List.getElem_append_left (show i < ps.length by omega)]
      exact h.apart i j (by omega) hlt hij
    · have : j = ps.length := by omega
      subst this
      rw [List.getElem_append_left hij, List.getElem_append_right (Nat.le_refl _)]
      simp only [Nat.sub_self, List.getElem_cons_zero]
      intro e
      have q1 : w.heap.size ≤ g1 := hA1.new g1 rfl
      rcases (h.data i hij).cases with ⟨k1, _, _⟩ | ⟨ga', k1, _, k2⟩
      · rw [k1] at e; simp [Value.ownBlock] at e
      · rw [k1] at e; simp [Value.ownBlock] at e; omega
end Go.Proofs.Ytnnohgllnfmoeaa
