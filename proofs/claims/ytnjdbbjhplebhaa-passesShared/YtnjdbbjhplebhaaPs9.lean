import Derived.Test.YtnjdbbjhplebhaaPs8
import Derived.Deep.CutBlock
namespace Go.Proofs.Ytnjdbbjhplebhaa
open Go.RowKit
set_option maxRecDepth 100000
set_option linter.unusedVariables false
set_option linter.unusedSimpArgs false

section
theorem ldJ_inj {J : Nat → Jb} {i j : Nat} (h : ldJ J i = ldJ J j) : i = j := congrArg Ld.pl h
/-- those that are still to come, ahead of tick t -/
structure COM (J : Nat → Jb) (n t : Nat) (C : List Ld) : Prop where
  srt : SrtD C 0 C.length
  nd : (C.map Ld.pl).Nodup
  val : ∀ x, x ∈ C → ∃ i, i < n ∧ 0 < (J i).by8 ∧ t ≤ (J i).fr ∧ x = ldJ J i
  all : ∀ i, i < n → 0 < (J i).by8 → t ≤ (J i).fr → ldJ J i ∈ C
/-- within tick t -/
structure COI (J : Nat → Jb) (n t : Nat) (C : List Ld) : Prop where
  srt : SrtD C 0 C.length
  nd : (C.map Ld.pl).Nodup
  val : ∀ x, x ∈ C → ∃ i, i < n ∧ 0 < (J i).by8 ∧ t ≤ (J i).fr ∧ x = ldJ J i
  all : ∀ i, i < n → 0 < (J i).by8 → t < (J i).fr → ldJ J i ∈ C
theorem COM.start {J : Nat → Jb} {n : Nat} {C : List Ld} (hp : C.Perm (ldsJ J n)) (hs : SrtD C 0 C.length) : COM J n 0 C :=
  ⟨hs, (hp.map Ld.pl).nodup_iff.2 (ldsJ_nd J n), fun x hx => by
    obtain ⟨i, h1, h2, h3⟩ := (ldsJ_mem J x n).1 (hp.mem_iff.1 hx)
    exact ⟨i, h1, h2, Nat.zero_le _, h3⟩, fun i h1 h2 _ => hp.mem_iff.2 ((ldsJ_mem J _ n).2 ⟨i, h1, h2, rfl⟩)⟩
theorem COM.toI {J : Nat → Jb} {n t : Nat} {C : List Ld} (h : COM J n t C) : COI J n t C := ⟨h.srt, h.nd, h.val, fun i h1 h2 h3 => h.all i h1 h2 (by omega)⟩
theorem srt_tail {x : Ld} {C : List Ld} (h : SrtD (x :: C) 0 (x :: C).length) : SrtD C 0 C.length := fun p q h1 h2 h3 => h (p + 1) (q + 1) (by omega) (by omega) (by simp; omega)
theorem srt_head {x : Ld} {C : List Ld} (h : SrtD (x :: C) 0 (x :: C).length) (y : Ld) (hy : y ∈ x :: C) : x.fr ≤ y.fr := by
  rcases List.mem_cons.1 hy with rfl | hy
  · exact Nat.le_refl _
  · obtain ⟨k, hk, e⟩ := List.getElem_of_mem hy
    have h1 := h 0 (k + 1) (Nat.le_refl _) (by omega) (by simp; omega)
    rw [show (x :: C).getD (k + 1) ld0 = y by rw [List.getD_eq_getElem?_getD, List.getElem?_cons_succ, List.getElem?_eq_getElem hk]; exact e] at h1
    exact h1
theorem COI.tail {J : Nat → Jb} {n t : Nat} {x : Ld} {C : List Ld} (h : COI J n t (x :: C)) (hx : x.fr = t) : COI J n t C := by
  refine ⟨srt_tail h.srt, (List.nodup_cons.1 (show (x.pl :: C.map Ld.pl).Nodup from h.nd)).2, fun y hy => h.val y (List.mem_cons_of_mem _ hy), fun i h1 h2 h3 => ?_⟩
  rcases List.mem_cons.1 (h.all i h1 h2 h3) with e | e
  · have : (ldJ J i).fr = t := by rw [e]; exact hx
    have : (J i).fr = t := this
    omega
  · exact e
theorem COI.fin {J : Nat → Jb} {n t : Nat} {C : List Ld} (h : COI J n t C) (hx : ∀ x T, C = x :: T → x.fr ≠ t) : COM J n (t + 1) C := by
  refine ⟨h.srt, h.nd, fun y hy => ?_, fun i h1 h2 h3 => h.all i h1 h2 (by omega)⟩
  obtain ⟨i, h1, h2, h3, h4⟩ := h.val y hy
  refine ⟨i, h1, h2, ?_, h4⟩
  cases C with
  | nil => cases hy
  | cons x T =>
    have h5 := srt_head h.srt y hy
    have h6 := hx x T rfl
    obtain ⟨j, _, _, j3, j4⟩ := h.val x (List.mem_cons_self ..)
    have h7 : x.fr = (J j).fr := by rw [j4]; rfl
    have h8 : y.fr = (J i).fr := by rw [h4]; rfl
    omega
/-- who is in the queue -/
def relC (J : Nat → Jb) (t : Nat) (C : List Ld) (i : Nat) : Prop := (J i).fr ≤ t ∧ ldJ J i ∉ C
theorem QS.rel {J : Nat → Jb} {n : Nat} {rel rel' : Nat → Prop} {L : Nat → Nat} {H : List Ld} (h : QS J n rel L H) (e : ∀ i, i < n → 0 < L i → (rel i ↔ rel' i)) : QS J n rel' L H :=
  ⟨h.heap, h.nd, fun x hx => by
    obtain ⟨v1, v2, v3, v4, v5, v6⟩ := h.val x hx
    exact ⟨v1, (e _ v1 (by omega)).1 v2, v3, v4, v5, v6⟩, fun i h1 h2 h3 => h.all i h1 h2 ((e i h1 h2).2 h3)⟩
theorem QS.toI {J : Nat → Jb} {n t : Nat} {L : Nat → Nat} {H C : List Ld} (h : QS J n (fun i => (J i).fr < t) L H) (hC : COM J n t C) (hL : ∀ i, L i ≤ (J i).by8) : QS J n (relC J t C) L H := by
  refine h.rel fun i hi hLi => ⟨fun hr => ⟨by omega, fun hm => ?_⟩, fun hr => ?_⟩
  · obtain ⟨j, _, _, j3, j4⟩ := hC.val _ hm
    have := ldJ_inj j4
    subst this
    omega
  · obtain ⟨h1, h2⟩ := hr
    refine Nat.lt_of_not_le fun hle => h2 (hC.all i hi ?_ hle)
    have := hL i
    omega
theorem QS.fin {J : Nat → Jb} {n t : Nat} {L : Nat → Nat} {H C : List Ld} (h : QS J n (relC J t C) L H) (hC : COM J n (t + 1) C) : QS J n (fun i => (J i).fr ≤ t) L H := by
  refine h.rel fun i hi hLi => ⟨fun hr => hr.1, fun hr => ⟨hr, fun hm => ?_⟩⟩
  obtain ⟨j, _, _, j3, j4⟩ := hC.val _ hm
  have := ldJ_inj j4
  subst this
  omega
theorem QS.come {J : Nat → Jb} {n t : Nat} {L : Nat → Nat} {H C : List Ld} {x : Ld} (h : QS J n (relC J t (x :: C)) L H) (hC : COI J n t (x :: C)) (hx : x.fr = t) (hL : ∀ i, t ≤ (J i).fr → L i = (J i).by8) : QS J n (relC J t C) L (pushH ltQ ld0 H x) := by
  obtain ⟨i, h1, h2, h3, rfl⟩ := hC.val x (List.mem_cons_self ..)
  have hfr : (J i).fr = t := hx
  have hp := h.push (ldJ J i) ⟨h1, rfl, rfl, (hL i h3).symm, h2⟩ (fun hr => hr.2 (List.mem_cons_self ..))
  obtain ⟨n1, n2⟩ := List.nodup_cons.1 (show ((ldJ J i).pl :: C.map Ld.pl).Nodup from hC.nd)
  refine hp.rel fun j hj hLj => ⟨fun hr => ?_, fun hr => ?_⟩
  · rcases hr with hr | hr
    · exact ⟨hr.1, fun hm => hr.2 (List.mem_cons_of_mem _ hm)⟩
    · have hr : j = i := hr
      subst hr
      exact ⟨by omega, fun hm => n1 (List.mem_map.2 ⟨_, hm, rfl⟩)⟩
  · by_cases e : j = i
    · exact .inr e
    · refine .inl ⟨hr.1, fun hm => ?_⟩
      rcases List.mem_cons.1 hm with hm | hm
      · exact e (ldJ_inj hm)
      · exact hr.2 hm
theorem nodup_le : ∀ (n : Nat) (l : List Nat), l.Nodup → (∀ x, x ∈ l → x < n) → l.length ≤ n
  | 0, l, _, h => by
    cases l with
    | nil => exact Nat.le_refl _
    | cons x l => exact absurd (h x (List.mem_cons_self ..)) (by omega)
  | n + 1, l, hn, h => by
    have ih := nodup_le n (l.erase n) (hn.erase n) (fun x hx => by
      have h1 := (hn.mem_erase_iff).1 hx
      have h2 := h x h1.2
      have h3 := h1.1
      omega)
    have := List.length_erase (a := n) (l := l)
    by_cases hm : n ∈ l
    · rw [List.length_erase_of_mem hm] at ih
      omega
    · rw [List.erase_of_not_mem hm] at ih
      omega
theorem QS.len {J : Nat → Jb} {n : Nat} {rel : Nat → Prop} {L : Nat → Nat} {H : List Ld} (h : QS J n rel L H) : H.length ≤ n := by
  have := nodup_le n (H.map Ld.pl) h.nd (fun x hx => by
    obtain ⟨y, hy, rfl⟩ := List.mem_map.1 hx
    exact (h.val y hy).1)
  rwa [List.length_map] at this
theorem QS.start (J : Nat → Jb) (n : Nat) : QS J n (fun i => (J i).fr < 0) (fun i => (J i).by8) [] :=
  ⟨fun i hi hl => absurd hl (by simp), List.nodup_nil, fun x hx => (by cases hx), fun i _ _ h => absurd h (by omega)⟩
theorem QS.next {J : Nat → Jb} {n t : Nat} {L : Nat → Nat} {H : List Ld} (h : QS J n (fun i => (J i).fr ≤ t) L H) : QS J n (fun i => (J i).fr < t + 1) L H := h.rel fun i _ _ => ⟨fun h => by omega, fun h => by omega⟩

/-- WHERE ALL LIES between two ticks -/
structure WM (w0 w : World) (n gg g5 gq : Nat) (ca : Option Addr) (cc : Nat) (C : List Ld) (qa : Option Addr) (qc : Nat) (H : List Ld) (G : Nat → Int) : Prop where
  gone : InB w gg n G
  box : BxS w g5 24 #[.slice (some ⟨gg, 0, none⟩) n n]
  q : QV w gq (.slice qa H.length qc) H
  com : 0 < C.length → ∃ b off, ca = some ⟨b, off, none⟩ ∧ C.length ≤ cc ∧ (∀ i, i < C.length → w.rangeAt b (off + i * 4) (C.getD i ld0).cells) ∧ b < w.heap.size ∧ b ≠ gq ∧ b ≠ gg ∧ (Value.slice qa 0 qc).ownBlock ≠ some b
  ne : gq ≠ gg ∧ gq ≠ g5 ∧ gg ≠ g5
  nq : ∀ g, (Value.slice qa 0 qc).ownBlock = some g → g ≠ gg ∧ g ≠ g5 ∧ w0.heap.size ≤ g
  lo : w0.heap.size ≤ gg ∧ w0.heap.size ≤ g5 ∧ w0.heap.size ≤ gq
  gr : w0.grownBy w none
theorem range_block {w w' : World} {b o : Nat} {cs : List Value} (h : w.rangeAt b o cs) (e : w'.heap[b]? = w.heap[b]?) : w'.rangeAt b o cs := by
  intro j v hv
  have := h j v hv
  unfold World.cell? at this ⊢
  rw [e]
  exact this
section
variable {w0 w w' : World} {n gg g5 gq : Nat} {ca : Option Addr} {cc : Nat} {C : List Ld} {qa : Option Addr} {qc : Nat} {H : List Ld} {G : Nat → Int}
theorem WM.keep (h : WM w0 w n gg g5 gq ca cc C qa qc H G) (hg : w.grownBy w' none) : WM w0 w' n gg g5 gq ca cc C qa qc H G :=
  ⟨h.gone.keep hg (by simp), h.box.keep hg (by simp), h.q.keep hg, fun h0 => by
    obtain ⟨b, off, e, h1, h2, h3, h4⟩ := h.com h0
    exact ⟨b, off, e, h1, fun i hi => range_block (h2 i hi) (hg.block b h3 (by simp)), Nat.lt_of_lt_of_le h3 hg.size, h4⟩, h.ne, h.nq, h.lo, grown_trans h.gr hg⟩
theorem WM.push (h : WM w0 w n gg g5 gq ca cc C qa qc H G) {H' : List Ld} {g cap : Nat} (hq : QV w' gq (.slice (some ⟨g, 0, none⟩) H'.length cap) H') (hor : (Value.slice qa H.length qc).ownBlock = some g ∨ w.heap.size ≤ g)
    (hF : Fz (fun b => b = gq ∨ (Value.slice qa H.length qc).ownBlock = some b) w w') : WM w0 w' n gg g5 gq ca cc C (some ⟨g, 0, none⟩) cap H' G := by
  have ho : (Value.slice qa H.length qc).ownBlock = (Value.slice qa 0 qc).ownBlock := by cases qa <;> rfl
  rw [ho] at hor hF
  have n1 : ¬ (gg = gq ∨ (Value.slice qa 0 qc).ownBlock = some gg) := fun e => by
    rcases e with e | e
    · exact h.ne.1 e.symm
    · exact (h.nq gg e).1 rfl
  have n2 : ¬ (g5 = gq ∨ (Value.slice qa 0 qc).ownBlock = some g5) := fun e => by
    rcases e with e | e
    · exact h.ne.2.1 e.symm
    · exact (h.nq g5 e).2.1 rfl
  have l1 := h.gone.lt
  have l2 := h.box.lt
  refine ⟨h.gone.fz hF n1, h.box.fz hF n2, hq, fun h0 => ?_, h.ne, fun g' e => ?_, h.lo, Fz.grown h.gr hF (fun i e => ?_)⟩
  · obtain ⟨b, off, e, h1, h2, h3, h4, h5, h6⟩ := h.com h0
    refine ⟨b, off, e, h1, fun i hi => range_block (h2 i hi) (hF.block b h3 (fun e => ?_)), Nat.lt_of_lt_of_le h3 hF.size, h4, h5, fun e => ?_⟩
    · rcases e with e | e
      · exact h4 e
      · exact h6 e
    · have e := Option.some.inj e
      have e : g = b := e
      subst e
      rcases hor with hor | hor
      · exact h6 hor
      · omega
  · have e : g = g' := Option.some.inj e
    subst e
    rcases hor with hor | hor
    · exact h.nq g hor
    · have := h.gr.size
      exact ⟨by omega, by omega, by omega⟩
  · rcases e with e | e
    · rw [e]
      exact h.lo.2.2
    · exact (h.nq i e).2.2
theorem WM.sent (h : WM w0 w n gg g5 gq ca cc C qa qc H G) {H' : List Ld} {G' : Nat → Int} (hq : QV w' gq (.slice qa H'.length qc) H') (hG : InB w' gg n G') (hF : Fz (fun b => b = gq ∨ (Value.slice qa 0 qc).ownBlock = some b ∨ b = gg) w w') :
    WM w0 w' n gg g5 gq ca cc C qa qc H' G' := by
  have n2 : ¬ (g5 = gq ∨ (Value.slice qa 0 qc).ownBlock = some g5 ∨ g5 = gg) := fun e => by
    rcases e with e | e | e
    · exact h.ne.2.1 e.symm
    · exact (h.nq g5 e).2.1 rfl
    · exact h.ne.2.2 e.symm
  refine ⟨hG, h.box.fz hF n2, hq, fun h0 => ?_, h.ne, h.nq, h.lo, Fz.grown h.gr hF (fun i e => ?_)⟩
  · obtain ⟨b, off, e, h1, h2, h3, h4, h5, h6⟩ := h.com h0
    refine ⟨b, off, e, h1, fun i hi => range_block (h2 i hi) (hF.block b h3 (fun e => ?_)), Nat.lt_of_lt_of_le h3 hF.size, h4, h5, h6⟩
    rcases e with e | e | e
    · exact h4 e
    · exact h6 e
    · exact h5 e
  · rcases e with e | e | e
    · rw [e]
      exact h.lo.2.2
    · exact (h.nq i e).2.2
    · rw [e]
      exact h.lo.1
theorem WM.tail {x : Ld} {b off : Nat} (h : WM w0 w n gg g5 gq (some ⟨b, off, none⟩) cc (x :: C) qa qc H G) {ca' : Option Addr} (hc : cc ≠ 1 → ca' = some ⟨b, off + 4, none⟩) : WM w0 w n gg g5 gq ca' (cc - 1) C qa qc H G := by
  refine ⟨h.gone, h.box, h.q, fun h0 => ?_, h.ne, h.nq, h.lo, h.gr⟩
  obtain ⟨b', off', e, h1, h2, h3⟩ := h.com (by simp)
  have h1 : C.length + 1 ≤ cc := h1
  simp only [Option.some.injEq, Addr.mk.injEq, and_true] at e
  obtain ⟨rfl, rfl⟩ := e
  refine ⟨b, off + 4, hc (by omega), by omega, fun i hi => ?_, h3⟩
  have h4 := h2 (i + 1) (by show i + 1 < C.length + 1; omega)
  rw [show off + 4 + i * 4 = off + (i + 1) * 4 by omega]
  exact h4
end
end

section
theorem own_row {w : World} {a : Option Addr} {n c : Nat} {C : List Ld} (h : w.ownsRow 0 55 4 (.slice a n c) n (flD C)) (hl : C.length = n) (h0 : 0 < n) : ∃ b, a = some ⟨b, 0, none⟩ ∧ n ≤ c ∧ RwD w b c C := by
  rcases h.2 with ⟨_, h2⟩ | ⟨g, cap, cur, h1, _, h3, h4, h5, h6, h7⟩
  · omega
  · simp only [Value.slice.injEq] at h1
    obtain ⟨rfl, _, rfl⟩ := h1
    exact ⟨g, rfl, h4, cur.toList.drop (n * 4), by rw [← h7, List.take_append_drop]; exact h3, by rw [← h7, List.take_append_drop]; simpa using h6⟩
theorem WM.start {w0 w3 : World} {n gg g5 lo cc : Nat} {ca : Option Addr} {C : List Ld} {G : Nat → Int} (hG : InB w3 gg n G) (h5 : BxS w3 g5 24 #[.slice (some ⟨gg, 0, none⟩) n n]) (hO : w3.ownsRow 0 55 4 (.slice ca C.length cc) C.length (flD C))
    (hNw : ∀ g, (Value.slice ca 0 cc).ownBlock = some g → lo ≤ g) (hlo : gg < lo ∧ g5 < lo ∧ gg ≠ g5 ∧ w0.heap.size ≤ gg ∧ w0.heap.size ≤ g5) (hlo2 : lo ≤ w3.heap.size) (hgr : w0.grownBy w3 none) :
    WM w0 ((w3.alloc (.cells #[] 55)).alloc (.cells #[.slice (some ⟨w3.heap.size, 0, none⟩) 0 0] 53)) n gg g5 (w3.heap.size + 1) ca cc C (some ⟨w3.heap.size, 0, none⟩) 0 [] G := by
  have G1 := World.grownBy_alloc w3 (.cells #[] 55) none
  have G2 := World.grownBy_alloc (w3.alloc (.cells #[] 55)) (.cells #[.slice (some ⟨w3.heap.size, 0, none⟩) 0 0] 53) none
  have GG := grown_trans G1 G2
  have bq := BxS.new (w3.alloc (.cells #[] 55)) 53 #[.slice (some ⟨w3.heap.size, 0, none⟩) 0 0]
  have br := BxS.keep (BxS.new w3 55 #[]) G2 (by simp)
  have hs : (w3.alloc (.cells #[] 55)).heap.size = w3.heap.size + 1 := by simp
  rw [hs] at bq
  obtain ⟨q1, q2, q3, q4, q5⟩ := hlo
  have l3 := hgr.size
  generalize ((w3.alloc (.cells #[] 55)).alloc (.cells #[.slice (some ⟨w3.heap.size, 0, none⟩) 0 0] 53)) = w4 at *
  refine ⟨hG.keep GG (by simp), BxS.keep h5 GG (by simp), ⟨bq, ⟨rfl, .inr ⟨_, 0, #[], rfl, Nat.zero_le _, br, Nat.le_refl _, Nat.zero_le _, rfl, rfl⟩⟩, ?_⟩, fun h0 => ?_, ⟨by omega, by omega, q3⟩, fun g e => ?_, ⟨q4, q5, by omega⟩, grown_trans hgr GG⟩
  · show some w3.heap.size ≠ some (w3.heap.size + 1)
    simp
  · obtain ⟨b, e, h1, h2⟩ := own_row hO rfl h0
    have hlb := h2.lt
    have hnb := hNw b (by rw [e]; rfl)
    refine ⟨b, 0, e, h1, fun i hi => ?_, Nat.lt_of_lt_of_le hlb GG.size, by omega, by omega, fun x => ?_⟩
    · rw [Nat.zero_add]
      exact (h2.keep GG (by simp)).range hi
    · have x := Option.some.inj x
      have x : w3.heap.size = b := x
      omega
  · have e := Option.some.inj e
    have e : w3.heap.size = g := e
    exact ⟨by omega, by omega, by omega⟩
def lenV : Value → Nat
  | .slice _ m _ => m
  | _ => 0
def gI (J : Nat → Jb) (k i : Nat) : Int := if i < k then g0J J i else 0
theorem gI_zero (J : Nat → Jb) : gI J 0 = fun _ => 0 := by funext i; unfold gI; rw [if_neg (by omega)]
theorem gI_some (J : Nat → Jb) (k : Nat) (h : (J k).by8 ≠ 0) : atG (gI J k) k (-1) = gI J (k + 1) := by
  funext i
  unfold atG gI g0J
  by_cases e : i = k
  · subst e; rw [if_pos rfl, if_pos (by omega), if_neg h]
  · rw [if_neg e]
    by_cases h2 : i < k
    · rw [if_pos h2, if_pos (show i < k + 1 by omega)]
    · rw [if_neg h2, if_neg (show ¬ i < k + 1 by omega)]
theorem gI_none (J : Nat → Jb) (k : Nat) (h : (J k).by8 = 0) : atG (atG (gI J k) k (-1)) k ((J k).fr : Int) = gI J (k + 1) := by
  funext i
  unfold atG gI g0J
  by_cases e : i = k
  · subst e; rw [if_pos rfl, if_pos (by omega), if_pos h]
  · rw [if_neg e, if_neg e]
    by_cases h2 : i < k
    · rw [if_pos h2, if_pos (show i < k + 1 by omega)]
    · rw [if_neg h2, if_neg (show ¬ i < k + 1 by omega)]
set_option maxHeartbeats 16000000 in
theorem whenGone_any (w : World) (gm e mc em n jc : Nat) (r : Nat → Nat) (ja : Option Addr) (J : Nat → Jb) (hM : InB w gm em (fun t => (r t : Int))) (hem : e ≤ em) (hmc : e ≤ mc) (he : e ≤ 20000) (hr : ∀ t, r t ≤ 1000000000)
    (hJ : RdT w ja n jc (fun i => tJ (J i))) (hn : n ≤ 100) (hok : ∀ i, (J i).by8 ≤ 1000000) (hok2 : ∀ i, (J i).fr ≤ 20000) (hS : SortsD n) :
    Calls Try.prog 15 #[.slice (some ⟨gm, 0, none⟩) e mc, .slice ja n jc] w fun e' w' => ∃ ga, e' = .returned (.slice (some ⟨ga, 0, none⟩) n n) ∧ InB w' ga n (runJ J n r e).2 ∧ w.heap.size ≤ ga ∧ w.grownBy w' none := by
  have HJ : Hid _ := hJ
  have HSS : Hid _ := hS
  have HM : Hid _ := hM
  have HEM : Hid (e ≤ em) := hem
  have HR : Hid _ := hr
  have HOK : Hid _ := hok
  have HOK2 : Hid _ := hok2
  clear hJ hS hM hem hr hok hok2
  go_enter Try.func15, Try.ntmps15
  refine wp_seq_k fun K0 hK0 => ?_
  have HK0 : Hid _ := hK0
  clear hK0
  go_wp2
  refine HK0.out _ _ ?_
  clear HK0
  refine wp_seq_k fun K1 hK1 => ?_
  have HK1 : Hid _ := hK1
  clear hK1
  have s0 : True := trivial
  have hnb : n ≤ 1000000000 := by omega
  go_wp2_with (first
    | (at_make; have _t := s0; clear s0; refine wpList_mkIn rfl _ _ rfl n rfl rfl hnb ?_; intro w1 hi1 g1))
  have GA := World.grownBy_alloc w1 (.cells #[.slice (some ⟨w.heap.size, 0, none⟩) n n] 24) none
  have b5 := BxS.new w1 24 #[.slice (some ⟨w.heap.size, 0, none⟩) n n]
  have hi2 := hi1.keep GA (by simp)
  have G2 := grown_trans g1 GA
  have hlt1 : w.heap.size < w1.heap.size := hi1.lt
  generalize hgg : w.heap.size = gg at *
  generalize hg5 : w1.heap.size = g5 at *
  generalize w1.alloc (.cells #[.slice (some ⟨gg, 0, none⟩) n n] 24) = w2 at *
  have HGG : Hid (w.heap.size = gg) := hgg
  have HLT : Hid (gg < g5) := hlt1
  clear hi1 g1 GA hgg hg5 hlt1
  refine HK1.out _ _ ?_
  clear HK1
  refine wp_seq_k fun K2 hK2 => ?_
  have HK2 : Hid _ := hK2
  clear hK2
  go_wp2
  go_loopw [17] (fun v17 wr => ∃ k : Nat, k ≤ n ∧ v17 = .int .i64 (k : Nat) ∧ InB wr gg n (gI J k) ∧ BxS wr g5 24 #[.slice (some ⟨gg, 0, none⟩) n n] ∧ w.grownBy wr none) (fun v17 _ => n - (intOf v17).toNat)
  case atStart => exact ⟨0, Nat.zero_le _, rfl, by rw [gI_zero]; exact hi2, b5, G2⟩
  case round =>
    obtain ⟨k, hk, rfl, hik, h5k, hg⟩ := hrel
    by_cases hlt : k < n
    · have lk : (k : Int) < (n : Int) := by omega
      obtain ⟨b, off, ha, _, hr⟩ := (HJ.out.keep hg).at' (by omega)
      have hr := hr k hlt
      have c0 := hr 0 _ rfl
      have c1 := hr 1 _ rfl
      have c2 := hr 2 _ rfl
      simp only [Nat.add_zero, tJ] at c0 c1 c2
      subst ha
      have hby : Hid ((J k).by8 = 0 → atG (atG (gI J k) k (-1)) k ((J k).fr : Int) = gI J (k + 1)) := gI_none J k
      have hby2 : Hid ((J k).by8 ≠ 0 → atG (gI J k) k (-1) = gI J (k + 1)) := gI_some J k
      obtain ⟨f, hf⟩ : ∃ f, f = (J k).fr := ⟨_, rfl⟩
      obtain ⟨t, ht⟩ : ∃ t, t = (J k).by' := ⟨_, rfl⟩
      obtain ⟨r0, hrr⟩ : ∃ r0, r0 = (J k).by8 := ⟨_, rfl⟩
      rw [← hf] at c0 hby
      rw [← ht] at c1
      rw [← hrr] at c2 hby hby2
      clear hf ht hrr hr
      have GA := World.grownBy_alloc wr (.cells #[.int .i64 (f : Nat), .int .i64 (t : Nat), .int .i64 (r0 : Nat)] 34) none
      have ba := BxS.new wr 34 #[.int .i64 (f : Nat), .int .i64 (t : Nat), .int .i64 (r0 : Nat)]
      have hia := hik.keep GA (by simp)
      have h5a := h5k.keep GA (by simp)
      have hgA := grown_trans hg GA
      have hl1 := hik.lt
      have hl2 := h5k.lt
      have HW : Hid (w.heap.size ≤ gg) := Nat.le_of_eq HGG.out
      go_upto_region 5 with fail
      generalize hgx : wr.heap.size = gx at *
      have HX : Hid (gx ≠ gg ∧ gx ≠ g5) := ⟨by omega, by omega⟩
      have HKN : Hid (k < n) := hlt
      generalize wr.alloc (.cells #[.int .i64 (f : Nat), .int .i64 (t : Nat), .int .i64 (r0 : Nat)] 34) = wa at *
      have c5 := h5a.cell 0 (by simp)
      have x0 := ba.cell 0 (by simp)
      have x2 := ba.cell 2 (by simp)
      simp at c5 x0 x2
      have HIA : Hid _ := hia
      have H5A : Hid _ := h5a
      have HBA : Hid _ := ba
      have HGA : Hid _ := hgA
      clear hik h5k hg GA hl1 hl2 hgx hlt hia h5a ba hgA
      have s0 : True := trivial
      have hne5 : Hid (gg ≠ g5) := by have := HLT.out; show _ ≠ _; omega
      by_cases hr0 : r0 = 0
      · subst hr0
        go_wp2_with (first
          | (have _t := s0; clear s0; refine wpList_stI rfl _ _ rfl gg n k (gI J k) (-1) rfl rfl HIA.out HKN.out ?_; intro w4 hi4 g4; have H4 : Hid _ := hi4; clear hi4; have b4 := BxS.keep H5A.out g4 (fun e => hne5.out (Option.some.inj e).symm); have z4 := BxS.keep HBA.out g4 (fun e => HX.out.1 (Option.some.inj e)); have c5 := BxS.cell b4 0 (by simp); have x0 := BxS.cell z4 0 (by simp); have x2 := BxS.cell z4 2 (by simp); simp at c5 x0 x2; have s1 : True := trivial)
          | (have _t := s1; clear s1; refine wpList_stI rfl _ _ rfl gg n k _ (f : Int) rfl rfl H4.out HKN.out ?_; intro w6 hi6 g6))
        refine ⟨⟨k + 1, HKN.out, by go_num, by rw [← hby.out rfl]; exact hi6, BxS.keep b4 g6 (fun e => hne5.out (Option.some.inj e).symm), grown_far (grown_far HGA.out g4 (fun q e => by cases e; exact HW.out)) g6 (fun q e => by cases e; exact HW.out)⟩, by have := HKN.out; simp [intOf] <;> omega⟩
      · have hr0b : ((r0 : Int) == 0) = false := by
          have : ¬ (r0 : Int) = 0 := by omega
          exact beq_eq_false_iff_ne.2 this
        have HR0 : Hid (r0 ≠ 0) := hr0
        clear hr0
        go_wp2_with (first
          | (have _t := s0; clear s0; refine wpList_stI rfl _ _ rfl gg n k (gI J k) (-1) rfl rfl HIA.out HKN.out ?_; intro w4 hi4 g4; have H4 : Hid _ := hi4; clear hi4; have b4 := BxS.keep H5A.out g4 (fun e => hne5.out (Option.some.inj e).symm); have z4 := BxS.keep HBA.out g4 (fun e => HX.out.1 (Option.some.inj e)); have c5 := BxS.cell b4 0 (by simp); have x0 := BxS.cell z4 0 (by simp); have x2 := BxS.cell z4 2 (by simp); simp at c5 x0 x2))
        refine ⟨⟨k + 1, HKN.out, by go_num, by rw [← hby2.out HR0.out]; exact H4.out, b4, grown_far HGA.out g4 (fun q e => by cases e; exact HW.out)⟩, by have := HKN.out; simp [intOf] <;> omega⟩
    · obtain rfl : n = k := by omega
      have lk : ¬ (n : Int) < (n : Int) := by omega
      go_wp2
      (try simp only [Exit.inBlock, Exit.then])
      have hi0 : InB wr gg n (g0J J) := hik.eq (fun i hi => by unfold gI; rw [if_pos hi])
      have L0 := loads_any wr ja n jc J (HJ.out.keep hg) (by omega) HSS.out
      have HI0 : Hid _ := hi0
      have H50 : Hid (BxS wr g5 24 #[.slice (some ⟨gg, 0, none⟩) n n]) := h5k
      have HG0 : Hid (w.grownBy wr none) := hg
      clear hi0 hik h5k hg hi2 b5 G2 lk
      refine HK2.out _ _ ?_
      clear HK2
      refine wp_seq_k fun K3 hK3 => ?_
      have HK3 : Hid _ := hK3
      clear hK3
      go_wp2_with (go_at_call 22; refine L0.mono ?_; rintro e0 w3 ⟨ca, cc, C, rfl, hO, hP, hSr, hNw, g3⟩)
      have W0 := WM.start (w0 := w) (lo := wr.heap.size) (HI0.out.keep g3 (by simp)) (BxS.keep H50.out g3 (by simp)) hO hNw ⟨HI0.out.lt, BxS.lt H50.out, by have := HLT.out; omega, Nat.le_of_eq HGG.out, by have := HLT.out; have := HGG.out; omega⟩ g3.size (grown_trans HG0.out g3)
      have hC0 := COM.start hP hSr
      generalize hgq : w3.heap.size + 1 = gq at *
      generalize ((w3.alloc (.cells #[] 55)).alloc (.cells #[.slice (some ⟨w3.heap.size, 0, none⟩) 0 0] 53)) = w4 at *
      generalize w3.heap.size = gr at *
      have HC0 : Hid _ := hC0
      clear hC0 hP hSr hNw hO L0
      refine HK3.out _ _ ?_
      clear HK3
      refine wp_seq_k fun K4 hK4 => ?_
      have HK4 : Hid _ := hK4
      clear hK4
      obtain ⟨m, hm⟩ : ∃ m, m = C.length := ⟨_, rfl⟩
      rw [← hm]
      have HMM : Hid _ := hm
      clear hm hgq g3
      go_wp2
      go_loopw [40, 8] (fun v40 v8 wx => ∃ (t : Nat) (ca : Option Addr) (cc m : Nat) (C : List Ld) (qa : Option Addr) (qc : Nat) (H : List Ld), v40 = .int .i64 (t : Nat) ∧ v8 = .slice ca m cc ∧ t ≤ e ∧ Hid (m = C.length) ∧ Hid (WM w wx n gg g5 gq ca cc C qa qc H (runJ J n r t).2) ∧ Hid (COM J n t C ∧ QS J n (fun i => (J i).fr < t) (lf J n r t) H)) (fun v40 v8 _ => e - (intOf v40).toNat)
      case atStart => exact ⟨0, ca, cc, m, C, _, _, _, rfl, rfl, Nat.zero_le _, HMM.out, W0, HC0.out, QS.start J n⟩
      case round =>
        clear W0 HC0 HMM
        obtain ⟨t, ca, cc, m, C, qa, qc, H, rfl, rfl, hte, hm, hWM, hCQ⟩ := hrel
        by_cases hlt2 : t < e
        · have lk : (t : Int) < (e : Int) := by omega
          have HTE : Hid (t < e) := hlt2
          have het : t ≤ 20000 := by omega
          have hmr : InB wr gm em (fun t => (r t : Int)) := InB.keep HM.out hWM.out.gr (by simp)
          have hct := InB.cell hmr (i := t) (by have := HEM.out; omega)
          have hlmc : (t : Int) < (mc : Int) := by omega
          obtain ⟨R, hRR⟩ : ∃ R, R = r t := ⟨_, rfl⟩
          rw [← hRR] at hct
          have HRR : Hid _ := hRR
          have GA := World.grownBy_alloc wr (.cells #[.int .i64 (t : Nat)] 3) none
          clear hmr hRR hlt2 hte
          have hb10 := BxS.new wr 3 #[.int .i64 (t : Nat)]
          have HB0 : Hid (BxS (wr.alloc (.cells #[.int .i64 (t : Nat)] 3)) wr.heap.size 3 #[.int .i64 (t : Nat)] ∧ wr.heap.size ≠ gq ∧ wr.heap.size ≠ gg ∧ (Value.slice qa 0 qc).ownBlock ≠ some wr.heap.size) := by
            refine ⟨hb10, ?_, ?_, ?_⟩
            · have := BxS.lt hWM.out.q.box; omega
            · have := hWM.out.gone.lt; omega
            · intro x
              have ho : (Value.slice qa H.length qc).ownBlock = (Value.slice qa 0 qc).ownBlock := by cases qa <;> rfl
              have := hWM.out.q.row.lt _ (by rw [ho]; exact x)
              omega
          have HWA : Hid (WM w (wr.alloc (.cells #[.int .i64 (t : Nat)] 3)) n gg g5 gq ca cc C qa qc H (runJ J n r t).2) := hWM.out.keep GA
          have HCI : Hid (COI J n t C ∧ QS J n (relC J t C) (lf J n r t) H) := ⟨hCQ.out.1.toI, hCQ.out.2.toI hCQ.out.1 (fun i => run_le' J n r i 0 t (Nat.zero_le _))⟩
          clear hWM hCQ hb10 GA
          go_wp2
          generalize wr.alloc (.cells #[.int .i64 (t : Nat)] 3) = wa at *
          generalize wr.heap.size = g10 at *
          go_loopw [8] (fun v8 wy => ∃ (ca : Option Addr) (cc m : Nat) (C : List Ld) (qa : Option Addr) (qc : Nat) (H : List Ld), v8 = .slice ca m cc ∧ Hid (m = C.length) ∧ Hid (WM w wy n gg g5 gq ca cc C qa qc H (runJ J n r t).2) ∧ Hid (COI J n t C ∧ QS J n (relC J t C) (lf J n r t) H) ∧ Hid (BxS wy g10 3 #[.int .i64 (t : Nat)] ∧ g10 ≠ gq ∧ g10 ≠ gg ∧ (Value.slice qa 0 qc).ownBlock ≠ some g10)) (fun v8 _ => lenV v8)
          case atStart => exact ⟨ca, cc, m, C, qa, qc, H, rfl, hm, HWA.out, HCI.out, HB0.out⟩
          case round =>
            clear HWA HCI HB0 hm
            obtain ⟨ca, cc, m, C, qa, qc, H, rfl, hm, hWM, hCQ, hB⟩ := hrel
            have x10 := BxS.cell hB.out.1 0 (by simp)
            simp at x10
            cases C with
            | nil =>
              obtain rfl : m = 0 := hm.out
              go_upto_region 13 with fail
              go_quiet (fail)
              have GQ := grown_drewN wr nq none
              generalize wr.drewN nq = wY at *
              obtain ⟨CC, hCC⟩ : ∃ CC : List Ld, CC = [] := ⟨_, rfl⟩
              rw [← hCC] at hm hWM hCQ
              have HW1 : Hid (WM w wY n gg g5 gq ca cc CC qa qc H (runJ J n r t).2) := hWM.out.keep GQ
              have HC1 : Hid (COM J n (t + 1) CC) := hCQ.out.1.fin (fun x T h => by rw [hCC] at h; cases h)
              have HQ1 : Hid (QS J n (fun i => (J i).fr ≤ t) (lf J n r t) H) := hCQ.out.2.fin HC1.out
              have HB1 : Hid (BxS wY g10 3 #[.int .i64 (t : Nat)]) := BxS.keep hB.out.1 GQ (by simp)
              have HN1 : Hid _ := hB.out.2
              have hm1 : Hid (0 = CC.length) := hm
              clear GQ hWM hCQ hB x10 hm hCC
              simp only [Exit.then]
              apply_assumption
              have S0 := send_any gq g10 g5 gg n t R qc qa H J (lf J n r t) (runJ J n r t).2 wY HW1.out.q HQ1.out (Nat.le_trans HQ1.out.len (by omega)) (by have := HRR.out; have := HR.out t; omega) (by omega) (fun i => Nat.le_trans (run_le' J n r i 0 t (Nat.zero_le _)) (Nat.le_trans (HOK.out i) (by decide))) HB1.out HW1.out.box HW1.out.gone ⟨HW1.out.ne.1, Ne.symm HN1.out.1, HW1.out.ne.2.1, Ne.symm HN1.out.2.1, HW1.out.ne.2.2⟩ (fun g h => ⟨(HW1.out.nq g h).1, fun e => HN1.out.2.2 (by rw [← e]; exact h), (HW1.out.nq g h).2.1⟩)
              go_wp2_with (go_at_call 24; refine S0.mono ?_; rintro e1 w9 ⟨rfl, ⟨H', hq', hqs', hl'⟩, hi', hF'⟩)
              have hrun : sendJ J n t R R (lf J n r t) (runJ J n r t).2 = runJ J n r (t + 1) := by rw [HRR.out]; rfl
              rw [hrun] at hi' hqs'
              refine ⟨⟨t + 1, ca, cc, 0, CC, qa, qc, H', by go_num, rfl, HTE.out, hm1, HW1.out.sent hq' hi' hF', HC1.out, hqs'.next⟩, by have := HTE.out; simp [intOf] <;> omega⟩
            | cons x T =>
              obtain ⟨b, off, hca, hcc, hcr, hcb⟩ := hWM.out.com (by simp)
              have hr0 := hcr 0 (by simp)
              have hr0 : wr.rangeAt b off x.cells := by simpa using hr0
              subst hca
              have hmp : 0 < m := by have := hm.out; rw [this]; simp
              have hmi : (0 : Int) < (m : Int) := by omega
              have hmc2 : m ≤ cc := by have := hm.out; rw [this]; exact hcc
              have d1 := hr0 1 _ rfl
              have HR0 : Hid _ := hr0
              have HCB : Hid (b < wr.heap.size) := hcb.1
              have HMP : Hid (m ≤ cc) := hmc2
              clear hcr hcb hcc hr0
              by_cases hx : x.fr = t
              · rw [hx] at d1
                have HX : Hid (x.fr = t) := hx
                clear hx
                go_upto_region 13 with fail
                go_quiet (fail)
                have GQ := grown_drewN wr nq none
                have hrY := range_block HR0.out (GQ.block b HCB.out (by simp))
                have HW1 : Hid (WM w (wr.drewN nq) n gg g5 gq (some ⟨b, off, none⟩) cc (x :: T) qa qc H (runJ J n r t).2) := hWM.out.keep GQ
                have HB1 : Hid (BxS (wr.drewN nq) g10 3 #[.int .i64 (t : Nat)]) := BxS.keep hB.out.1 GQ (by simp)
                have HN1 : Hid _ := hB.out.2
                generalize wr.drewN nq = wY at *
                have e0 := hrY 0 _ rfl
                have e1 := hrY 1 _ rfl
                have e2 := hrY 2 _ rfl
                have e3 := hrY 3 _ rfl
                simp only [Nat.add_zero] at e0
                clear GQ hWM hB x10 d1 HCB hrY
                have P0 := hpush_any gq (.slice qa H.length qc) H x wY HW1.out.q (Nat.le_trans hCQ.out.2.len (by omega))
                by_cases hc1 : cc = 1
                · subst hc1
                  obtain rfl : m = 1 := by have := HMP.out; omega
                  go_wp2_with (go_at_call 23; refine P0.mono ?_; rintro e9 w9 ⟨rfl, g, cap, hq', hor, hF⟩)
                  have ho : (Value.slice qa H.length qc).ownBlock = (Value.slice qa 0 qc).ownBlock := by cases qa <;> rfl
                  have hl10 := BxS.lt HB1.out
                  refine ⟨⟨_, (1 - 1), (1 - 1), T, some ⟨g, 0, none⟩, cap, pushH ltQ ld0 H x, rfl, by have h : 1 = T.length + 1 := hm.out; show (1 - 1) = T.length; omega, (HW1.out.push hq' hor hF).tail (fun h => absurd rfl h), ⟨hCQ.out.1.tail HX.out, hCQ.out.2.come hCQ.out.1 HX.out (fun i hi => run_keep J n r i t hi)⟩, BxS.fz HB1.out hF (fun e => ?_), HN1.out.1, HN1.out.2.1, fun e => ?_⟩, by simp [lenV] <;> omega⟩
                  · rcases e with e | e
                    · exact HN1.out.1 e
                    · rw [ho] at e
                      exact HN1.out.2.2 e
                  · have e := Option.some.inj e
                    have e : g = g10 := e
                    rw [ho] at hor
                    rcases hor with h | h
                    · exact HN1.out.2.2 (by rw [← e]; exact h)
                    · omega
                · have hc2 : ¬ (cc : Int) = 1 := by omega
                  go_wp2_with (go_at_call 23; refine P0.mono ?_; rintro e9 w9 ⟨rfl, g, cap, hq', hor, hF⟩)
                  have ho : (Value.slice qa H.length qc).ownBlock = (Value.slice qa 0 qc).ownBlock := by cases qa <;> rfl
                  have hl10 := BxS.lt HB1.out
                  refine ⟨⟨_, (cc - 1), (m - 1), T, some ⟨g, 0, none⟩, cap, pushH ltQ ld0 H x, rfl, by have h : m = T.length + 1 := hm.out; show (m - 1) = T.length; omega, (HW1.out.push hq' hor hF).tail (fun h => rfl), ⟨hCQ.out.1.tail HX.out, hCQ.out.2.come hCQ.out.1 HX.out (fun i hi => run_keep J n r i t hi)⟩, BxS.fz HB1.out hF (fun e => ?_), HN1.out.1, HN1.out.2.1, fun e => ?_⟩, by simp [lenV] <;> omega⟩
                  · rcases e with e | e
                    · exact HN1.out.1 e
                    · rw [ho] at e
                      exact HN1.out.2.2 e
                  · have e := Option.some.inj e
                    have e : g = g10 := e
                    rw [ho] at hor
                    rcases hor with h | h
                    · exact HN1.out.2.2 (by rw [← e]; exact h)
                    · omega
              · have hx2 : ((x.fr : Int) == (t : Int)) = false := by
                  have : ¬ (x.fr : Int) = (t : Int) := by omega
                  exact beq_eq_false_iff_ne.2 this
                have HX : Hid (x.fr ≠ t) := hx
                clear hx
                go_upto_region 13 with fail
                go_quiet (fail)
                have GQ := grown_drewN wr nq none
                obtain ⟨CC, hCC⟩ : ∃ CC : List Ld, CC = x :: T := ⟨_, rfl⟩
                rw [← hCC] at hm hWM hCQ
                have HW1 : Hid (WM w (wr.drewN nq) n gg g5 gq (some ⟨b, off, none⟩) cc CC qa qc H (runJ J n r t).2) := hWM.out.keep GQ
                have HC1 : Hid (COM J n (t + 1) CC) := hCQ.out.1.fin (fun y U h => by rw [hCC] at h; cases h; exact HX.out)
                have HQ1 : Hid (QS J n (fun i => (J i).fr ≤ t) (lf J n r t) H) := hCQ.out.2.fin HC1.out
                have HB1 : Hid (BxS (wr.drewN nq) g10 3 #[.int .i64 (t : Nat)]) := BxS.keep hB.out.1 GQ (by simp)
                have HN1 : Hid _ := hB.out.2
                generalize wr.drewN nq = wY at *
                have hm1 : Hid (m = CC.length) := hm
                clear GQ hWM hCQ hB x10 hm hCC d1 hx2
                simp only [Exit.then]
                apply_assumption
                have S0 := send_any gq g10 g5 gg n t R qc qa H J (lf J n r t) (runJ J n r t).2 wY HW1.out.q HQ1.out (Nat.le_trans HQ1.out.len (by omega)) (by have := HRR.out; have := HR.out t; omega) (by omega) (fun i => Nat.le_trans (run_le' J n r i 0 t (Nat.zero_le _)) (Nat.le_trans (HOK.out i) (by decide))) HB1.out HW1.out.box HW1.out.gone ⟨HW1.out.ne.1, Ne.symm HN1.out.1, HW1.out.ne.2.1, Ne.symm HN1.out.2.1, HW1.out.ne.2.2⟩ (fun g h => ⟨(HW1.out.nq g h).1, fun e => HN1.out.2.2 (by rw [← e]; exact h), (HW1.out.nq g h).2.1⟩)
                go_wp2_with (go_at_call 24; refine S0.mono ?_; rintro e1 w9 ⟨rfl, ⟨H', hq', hqs', hl'⟩, hi', hF'⟩)
                have hrun : sendJ J n t R R (lf J n r t) (runJ J n r t).2 = runJ J n r (t + 1) := by rw [HRR.out]; rfl
                rw [hrun] at hi' hqs'
                refine ⟨⟨t + 1, _, cc, m, CC, qa, qc, H', by go_num, rfl, HTE.out, hm1, HW1.out.sent hq' hi' hF', HC1.out, hqs'.next⟩, by have := HTE.out; simp [intOf] <;> omega⟩
        · obtain rfl : e = t := by omega
          have lk : ¬ (e : Int) < (e : Int) := by omega
          have c5 := BxS.cell hWM.out.box 0 (by simp)
          simp at c5
          go_wp2
          (try simp only [Exit.inBlock, Exit.then])
          refine HK4.out _ _ ?_
          clear HK4
          go_wp2
          go_ret
          exact ⟨gg, rfl, hWM.out.gone, Nat.le_refl _, hWM.out.gr⟩
end
end Go.Proofs.Ytnjdbbjhplebhaa
