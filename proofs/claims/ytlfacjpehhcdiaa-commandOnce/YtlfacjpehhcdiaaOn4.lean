import Derived.ArgAppend
import Derived.Deep.DeepAppendWide
import Derived.Deep.RegionLawGrows
import Derived.Test.YtlfacjpehhcdiaaOn1
import Derived.Test.YtlfacjpehhcdiaaOn0
import Derived.Test.YtlfacjpehhcdiaaOn3
import Derived.Test.YtlfacjpehhcdiaaOn2
namespace Go.Proofs.Ytlfacjpehhcdiaa
open Go.RowKit
set_option maxRecDepth 100000
set_option linter.unusedVariables false
set_option linter.unusedSimpArgs false

section
/-- a packet as it lies in memory, and what its data are -/
structure Pk where
  up : Bool
  se : Bool
  ap : Int
  pt : Int
  ct : Int
  a : Option Addr
  n : Nat
  c : Nat
  D : List Nat
def Pk.cells (p : Pk) : List Value := [.bool p.up, .bool p.se, .int .i64 p.ap, .int .i64 p.pt, .int .i64 p.ct, .slice p.a p.n p.c]
/-- a slice of packets as it is read -/
structure RdP (w : World) (a : Option Addr) (n cap : Nat) (F : Nat → Pk) : Prop where
  le : n ≤ cap
  max : cap ≤ maxLen
  at' : 0 < n → ∃ b off, a = some ⟨b, off, none⟩ ∧ b < w.heap.size ∧ ∀ i, i < n → ∀ j, j < 6 → w.cell? ⟨b, off + (i * 6 + j), none⟩ = (F i).cells[j]?
  data : ∀ i, i < n → Rd w (F i).a (F i).n (F i).c (F i).D
theorem addr_add' (b off j : Nat) : (⟨b, off, none⟩ : Addr).add j = ⟨b, off + j, none⟩ := by unfold Addr.add; split <;> simp_all
theorem own_baseG {w : World} {base : Nat} {e : TypeId} {sz : Nat} {v : Value} {n : Nat} {xs : List Value} (h : w.ownsRow base e sz v n xs) : w.ownsRow 0 e sz v n xs := by
  refine ⟨h.1, ?_⟩
  rcases h.2 with h2 | ⟨g, cap, cur, h3, h4, h5⟩
  · exact .inl h2
  · exact .inr ⟨g, cap, cur, h3, Nat.zero_le _, h5⟩
/-- packets in a row of the call's own -/
def flatP (ps : List Pk) : List Value := ps.flatMap Pk.cells
theorem flatP_len (ps : List Pk) : (flatP ps).length = ps.length * 6 := by
  induction ps with
  | nil => rfl
  | cons p ps ih => simp only [flatP, List.flatMap_cons, List.length_append, List.length_cons] at *; rw [ih]; simp [Pk.cells]; omega
theorem flatP_get (ps : List Pk) (i j : Nat) (hi : i < ps.length) (hj : j < 6) : (flatP ps)[i * 6 + j]? = (ps[i]).cells[j]? := by
  induction ps generalizing i with
  | nil => simp at hi
  | cons p ps ih =>
    have hc : p.cells.length = 6 := rfl
    simp only [flatP, List.flatMap_cons]
    cases i with
    | zero =>
      rw [List.getElem?_append_left (by rw [hc]; omega)]
      simp
    | succ i =>
      rw [List.getElem?_append_right (by rw [hc]; omega), hc, show (i + 1) * 6 + j - 6 = i * 6 + j by omega]
      exact ih i (by simpa using hi)
def kr0 : Rw := ⟨none, 0, 0, []⟩
def Rw.v (r : Rw) : Value := .slice r.a r.n r.c
def flatR (rs : List Rw) : List Value := rs.map Rw.v
/-- rows of bytes, all of them in memory of the call's own -/
structure OwR (w : World) (lo : Nat) (a : Option Addr) (n c : Nat) (rs : List Rw) : Prop where
  own : w.ownsRow 0 29 1 (.slice a n c) n (flatR rs)
  len : rs.length = n
  new : ∀ g, (Value.slice a n c).ownBlock = some g → lo ≤ g
  each : ∀ r, r ∈ rs → Ans w lo r.a r.n r.c r.D
  apart : rs.Pairwise fun r s => ∀ g, r.v.ownBlock = some g → s.v.ownBlock ≠ some g
theorem OwR.keep {w w' : World} {lo : Nat} {a : Option Addr} {n c : Nat} {rs : List Rw} (h : OwR w lo a n c rs) (hg : w.grownBy w' none) : OwR w' lo a n c rs :=
  ⟨h.own.kept hg (by cases (Value.slice a n c).ownBlock <;> simp), h.len, h.new, fun r hr => (h.each r hr).keep hg, h.apart⟩
theorem OwR.wide {w : World} {lo lo' : Nat} {a : Option Addr} {n c : Nat} {rs : List Rw} (h : OwR w lo a n c rs) (hl : lo' ≤ lo) : OwR w lo' a n c rs :=
  ⟨h.own, h.len, fun g hg => Nat.le_trans hl (h.new g hg), fun r hr => (h.each r hr).wide hl, h.apart⟩
theorem OwR.nil (w : World) (lo : Nat) : OwR w lo none 0 0 [] := ⟨World.ownsRow_nil _ _ _ _, rfl, fun g h => by simp [Value.ownBlock] at h, fun r h => by simp at h, List.Pairwise.nil⟩
theorem OwR.rdr {w : World} {lo : Nat} {a : Option Addr} {n c : Nat} {rs : List Rw} (h : OwR w lo a n c rs) : RdR w a n c (fun i => rs.getD i kr0) := by
  have hl := h.len
  have hd : ∀ i, i < n → Rd w (rs.getD i kr0).a (rs.getD i kr0).n (rs.getD i kr0).c (rs.getD i kr0).D := fun i hi => by
    have hm : rs.getD i kr0 ∈ rs := by rw [List.getD_eq_getElem?_getD, List.getElem?_eq_getElem (by omega)]; exact List.getElem_mem _
    exact (h.each _ hm).rd
  rcases h.own.2 with ⟨h1, h2⟩ | ⟨g, cap, cur, h1, _, hh, hle, hmx, _, _⟩
  · simp only [Value.slice.injEq] at h1
    obtain ⟨_, h3, h4⟩ := h1
    exact ⟨by omega, by unfold maxLen; omega, fun h0 => by omega, hd⟩
  · have h1' := h1
    simp only [Value.slice.injEq] at h1'
    obtain ⟨rfl, _, rfl⟩ := h1'
    refine ⟨hle, hmx, fun h0 => ⟨g, 0, rfl, (Array.getElem?_eq_some_iff.1 hh).1, fun i hi => ?_⟩, hd⟩
    have hu : (flatR rs)[i]? = some (rs.getD i kr0).v := by
      unfold flatR
      rw [List.getElem?_map, List.getElem?_eq_getElem (by omega), List.getD_eq_getElem?_getD, List.getElem?_eq_getElem (by omega)]
      rfl
    have := h.own.cells (g := g) rfl i _ hu
    rw [addr_add', Nat.zero_add] at this
    rw [Nat.zero_add]
    exact this
def zr : Value := .slice none 0 0
theorem Try.info_rw : (Try.prog.info? 29).map (fun i => (i.zero, i.size, i.bytes)) = some (some zr, 1, 24) := by kernel_rfl
set_option maxHeartbeats 8000000 in
/-- 'copyAll': a copy of commands that may be -/
theorem copyAll_any (a : Option Addr) (n cap : Nat) (F : Nat → Rw) (w : World) (h : RdR w a n cap F) (hF : ∀ i, i < n → 1 ≤ (F i).n ∧ (F i).n ≤ 1017) (hn : n ≤ 1000) :
    Calls Try.prog 28 #[.slice a n cap] w fun e w' => ∃ a' c' rs, e = .returned (.slice a' n c') ∧ OwR w' w.heap.size a' n c' rs ∧ (∀ i, i < n → (rs.getD i kr0).D = (F i).D) ∧ w.grownBy w' none := by
  obtain ⟨i0, hi, hz0, hz1, hz2⟩ := info_parts Try.info_rw
  have hle := h.le
  go_enter Try.func28, Try.ntmps28
  go_wp2_with (first
    | (at_make; refine wpList_make_full _ rfl _ _ 23 rfl w.heap.size 29 i0 zr 1 Try.underlying23 hi hz0 hz1 .i64 .i64 n n n rfl rfl rfl rfl (by rw [hz2]; omega) (by unfold maxLen; omega) (Nat.le_refl _) ?_; intro w1 hown g1))
  have hmk : (madeCells zr.cells (n * 1)).toList = List.replicate n zr := by rw [Nat.mul_one]; exact toList_madeCells_one _ _
  rw [hmk] at hown
  have hlt : w.heap.size < w1.heap.size := by
    have := hown.2
    rcases this with ⟨h1, _⟩ | ⟨g, cap', cur, hv, _, hh, _⟩
    · simp at h1
    · simp only [Value.slice.injEq, Option.some.injEq, Addr.mk.injEq] at hv
      obtain ⟨⟨rfl, _⟩, _⟩ := hv
      exact (Array.getElem?_eq_some_iff.1 hh).1
  have hown := own_baseG hown
  have h1 := h.keep g1
  go_loopw [11] (fun i wr => ∃ (k : Nat) (rs : List Rw), k ≤ n ∧ i = .int .i64 k ∧ rs.length = k ∧ wr.ownsRow 0 29 1 (.slice (some ⟨w.heap.size, 0, none⟩) n n) n (flatR rs ++ List.replicate (n - k) zr) ∧ (∀ r, r ∈ rs → Ans wr w1.heap.size r.a r.n r.c r.D) ∧ (rs.Pairwise fun r s => ∀ g, r.v.ownBlock = some g → s.v.ownBlock ≠ some g) ∧ (∀ i, i < k → (rs.getD i kr0).D = (F i).D) ∧ w1.grownBy wr (some w.heap.size)) (fun i _ => n - (intOf i).toNat)
  case atStart => exact ⟨0, [], by omega, rfl, rfl, hown, fun r h => by simp at h, List.Pairwise.nil, fun i h => by omega, World.grownBy.refl _ _⟩
  case round =>
    obtain ⟨k, rs, hk, rfl, hl, ho, he, ha, hd, hgr⟩ := hrel
    have G := grown_far g1 hgr (fun q e => by cases e; exact Nat.le_refl _)
    by_cases hlk : k < n
    · have h2 := h.keep G
      obtain ⟨ba, oa, rfl, hba, ca⟩ := h2.at' (by omega)
      have d1 := ca k hlk
      have hr := h2.data k hlk
      obtain ⟨f1, f2⟩ := hF k hlk
      obtain ⟨bd, od, hfa, hbd, _⟩ := hr.at' (by omega)
      have HD : Hid (∀ i, i < k → (rs.getD i kr0).D = (F i).D) := hd
      rw [hfa] at d1 hr
      have hC := pclone_any bd od (F k).n (F k).c (F k).D wr hr (by omega) (by omega)
      obtain ⟨Dk, hDk⟩ : ∃ Dk, Dk = (F k).D := ⟨_, rfl⟩
      rw [← hDk] at hC hr
      have HDk : Hid (Dk = (F k).D) := hDk
      clear hDk
      generalize (F k).n = nk at *
      generalize (F k).c = ck at *
      have l1 : (k : Int) < (n : Int) := by omega
      have hE : flatR rs ++ List.replicate (n - k) zr = flatR rs ++ zr :: List.replicate (n - (k + 1)) zr := by rw [show n - k = (n - (k + 1)) + 1 by omega, List.replicate_succ]
      have hfl : (flatR rs).length = k := by unfold flatR; rw [List.length_map]; exact hl
      clear ca hfa h2 hr hd
      go_wp2_with (first
        | (go_at_call 19; refine hC.mono ?_; rintro e w5 ⟨ga, cg, rfl, hA5, g5⟩; have ho5 := ho.kept g5 (.inr (by simp [Value.ownBlock])); have hf5 := ho5.frozenAt k; obtain ⟨u5, hc5⟩ : (∃ u, w5.cell? ⟨w.heap.size, k, none⟩ = some u) := ⟨zr, (by have := ho5.cells (g := w.heap.size) rfl k zr (by rw [hE, List.getElem?_append_right (by omega), hfl, Nat.sub_self]; rfl); rw [addr_add', Nat.zero_add] at this; exact this)⟩))
      have hst := (ho5.stored k (.slice (some ⟨ga, 0, none⟩) nk cg)).1
      have hst2 : (flatR rs ++ List.replicate (n - k) zr).set k (.slice (some ⟨ga, 0, none⟩) nk cg) = flatR (rs ++ [(⟨some ⟨ga, 0, none⟩, nk, cg, Dk⟩ : Rw)]) ++ List.replicate (n - (k + 1)) zr := by
        rw [hE, List.set_append_right _ _ (by omega), hfl, Nat.sub_self, List.set_cons_zero]
        unfold flatR
        rw [List.map_append, List.append_assoc]
        rfl
      rw [hst2] at hst
      have gS := grown_set w5 w.heap.size k (.slice (some ⟨ga, 0, none⟩) nk cg)
      have hs5 : w1.heap.size ≤ wr.heap.size := hgr.size
      have hnew : wr.heap.size ≤ ga := hA5.new ga rfl
      go_roundw
      case rel =>
        refine ⟨k + 1, _, by omega, by go_num, by rw [List.length_append, hl]; rfl, hst, fun r hr => ?_, ?_, fun i hi => ?_, grown_trans (grown_trans hgr (grown_weak g5 _)) gS⟩
        · rcases List.mem_append.1 hr with h | h
          · have hr5 := (he r h).keep g5
            refine hr5.kept gS ?_
            rcases hr5.cases with ⟨e1, _, _⟩ | ⟨x, e1, hx, _⟩
            · exact .inl (by rw [e1]; rfl)
            · exact .inr (by rw [e1]; simp only [Value.ownBlock, ne_eq, Option.some.injEq]; omega)
          · have e := List.mem_singleton.1 h
            subst e
            exact (hA5.wide hs5).kept gS (.inr (by simp only [Value.ownBlock, ne_eq, Option.some.injEq]; omega))
        · refine List.pairwise_append.2 ⟨ha, List.pairwise_singleton _ _, fun r hr s hs g hg => ?_⟩
          have e := List.mem_singleton.1 hs
          subst e
          rcases (he r hr).cases with ⟨e1, _, _⟩ | ⟨x, e1, _, hx⟩
          · unfold Rw.v at hg; rw [e1] at hg; simp [Value.ownBlock] at hg
          · unfold Rw.v at hg ⊢
            rw [e1] at hg
            have e2 : x = g := Option.some.inj hg
            simp only [Value.ownBlock, ne_eq, Option.some.injEq]
            omega
        · rw [List.getD_eq_getElem?_getD]
          by_cases e : i < k
          · rw [List.getElem?_append_left (by omega), ← List.getD_eq_getElem?_getD]
            exact HD.out i e
          · obtain rfl : i = k := by omega
            rw [List.getElem?_append_right (by omega), hl, Nat.sub_self]
            exact HDk.out
      case measure => simp [intOf]; omega
    · obtain rfl : k = n := by omega
      go_wp2
      go_ret
      refine ⟨_, _, rs, rfl, ⟨?_, hl, fun g e => ?_, fun r hr => (he r hr).wide (by omega), ha⟩, hd, G⟩
      · rw [Nat.sub_self, List.replicate_zero, List.append_nil] at ho; exact ho
      · have e' : w.heap.size = g := Option.some.inj e
        omega

/-! packets one behind the other -/
theorem RdP.keep {w w' : World} {a : Option Addr} {n cap : Nat} {F : Nat → Pk} (h : RdP w a n cap F) (hg : w.grownBy w' none) : RdP w' a n cap F :=
  ⟨h.le, h.max, fun h0 => by
    obtain ⟨b, off, e, hb, hc⟩ := h.at' h0
    refine ⟨b, off, e, Nat.lt_of_lt_of_le hb hg.size, fun i hi j hj => ?_⟩
    rw [← hc i hi j hj]
    unfold World.cell?
    rw [hg.block b hb (by simp)], fun i hi => (h.data i hi).keep hg⟩
theorem Ans.up {w : World} {lo : Nat} {a : Option Addr} {n cap : Nat} {L : List Nat} (h : Ans w lo a n cap L) : w.ownsRow lo 5 1 (.slice a n cap) n (bys L) := by
  refine ⟨h.own.1, ?_⟩
  rcases h.own.2 with h1 | ⟨g, c1, cur, h1, h2, h3⟩
  · exact .inl h1
  · refine .inr ⟨g, c1, cur, h1, ?_, h3⟩
    simp only [Value.slice.injEq] at h1
    obtain ⟨rfl, _, _⟩ := h1
    exact h.new g rfl
theorem own_apart {w : World} {b b' : Nat} {e e' : TypeId} {s s' : Nat} {v v' : Value} {n n' : Nat} {xs xs' : List Value} (h : w.ownsRow b e s v n xs) (k : w.ownsRow b' e' s' v' n' xs') (hne : e ≠ e') (g : Nat) (hg : v.ownBlock = some g) : v'.ownBlock ≠ some g := by
  intro hg'
  rcases h.2 with ⟨rfl, _⟩ | ⟨x, c, cur, rfl, _, hh, _⟩
  · simp [Value.ownBlock] at hg
  · rcases k.2 with ⟨rfl, _⟩ | ⟨x', c', cur', rfl, _, hh', _⟩
    · simp [Value.ownBlock] at hg'
    · have e1 : x = g := Option.some.inj hg
      have e2 : x' = g := Option.some.inj hg'
      subst e1 e2
      rw [hh] at hh'
      cases hh'
      exact hne rfl
theorem ne_u8 : (29 : TypeId) ≠ 5 := by decide
theorem one_row (w : World) (v : Value) : ∀ j u, [v][j]? = some u → (w.alloc (.cells #[v] 29)).cell? ((⟨w.heap.size, 0, none⟩ : Addr).add j) = some u := by
  intro j u h
  rw [addr_add', Nat.zero_add]
  match j with
  | 0 => rw [← h]; exact (BxS.new w 29 #[v]).cell 0 (by show 0 < 1; decide)
  | j + 1 => simp at h
/-- a row more -/
theorem OwR.push {w w' : World} {lo : Nat} {a : Option Addr} {n c : Nat} {rs : List Rw} {r : Rw} {g c' : Nat} (h : OwR w lo a n c rs) (hr : Ans w lo r.a r.n r.c r.D) (hap : ∀ q, q ∈ rs → ∀ g, q.v.ownBlock = some g → r.v.ownBlock ≠ some g)
    (hg : w.grownBy w' (Value.slice a n c).ownBlock) (ho : w'.ownsRow 0 29 1 (.slice (some ⟨g, 0, none⟩) (n + 1) c') (n + 1) (flatR rs ++ [r.v])) (hn : (Value.slice a n c).ownBlock = some g ∨ lo ≤ g) : OwR w' lo (some ⟨g, 0, none⟩) (n + 1) c' (rs ++ [r]) := by
  have keep : ∀ q : Rw, Ans w lo q.a q.n q.c q.D → Ans w' lo q.a q.n q.c q.D := fun q hq => by
    refine hq.kept hg ?_
    cases e : (Value.slice q.a q.n q.c).ownBlock with
    | none => exact .inl rfl
    | some y =>
      refine .inr (fun e2 => ?_)
      exact own_apart hq.own h.own (fun e => ne_u8 e.symm) y e e2.symm
  refine ⟨by unfold flatR; rw [List.map_append]; exact ho, by rw [List.length_append, h.len]; rfl, fun y hy => ?_, fun q hq => ?_, ?_⟩
  · have e : g = y := Option.some.inj hy
    subst e
    rcases hn with h1 | h1
    · exact h.new g h1
    · exact h1
  · rcases List.mem_append.1 hq with h1 | h1
    · exact keep q (h.each q h1)
    · have e := List.mem_singleton.1 h1
      subst e
      exact keep _ hr
  · refine List.pairwise_append.2 ⟨h.apart, List.pairwise_singleton _ _, fun q hq s hs y hy => ?_⟩
    have e := List.mem_singleton.1 hs
    subst e
    exact hap q hq y hy
theorem stc_rows (g i : Nat) (p : Option Addr) (l c : Nat) (w : World) (hc : ∃ u, w.cell? ⟨g, i, none⟩ = some u) (hf : w.frozen? ⟨g, i, none⟩ = false) : (Instr.storeAt 23 (.pointer (some ⟨g, i, none⟩)) (.slice p l c)).run Try.prog w = .ok () (w.setCell ⟨g, i, none⟩ (.slice p l c)) := by
  obtain ⟨u, hc⟩ := hc
  simp [go_sem, hc, hf]
/-- all that rows own lies ahead of hi -/
def Bef (hi : Nat) (v : Value) (rs : List Rw) : Prop := (∀ g, v.ownBlock = some g → g < hi) ∧ ∀ r, r ∈ rs → ∀ g, r.v.ownBlock = some g → g < hi
theorem OwR.bef {w : World} {lo : Nat} {a : Option Addr} {n c : Nat} {rs : List Rw} (h : OwR w lo a n c rs) : Bef w.heap.size (.slice a n c) rs := by
  refine ⟨fun g hg => ?_, fun r hr g hg => ?_⟩
  · rcases h.own.2 with ⟨h1, _⟩ | ⟨x, cap, cur, h1, _, hh, _⟩
    · rw [h1] at hg; simp [Value.ownBlock] at hg
    · rw [h1] at hg
      have e : x = g := Option.some.inj hg
      subst e
      exact (Array.getElem?_eq_some_iff.1 hh).1
  · rcases (h.each r hr).cases with ⟨e1, _, _⟩ | ⟨x, e1, _, hx⟩
    · unfold Rw.v at hg; rw [e1] at hg; simp [Value.ownBlock] at hg
    · unfold Rw.v at hg
      rw [e1] at hg
      have e2 : x = g := Option.some.inj hg
      omega
theorem OwR.kept {w w' : World} {lo : Nat} {a : Option Addr} {n c : Nat} {rs : List Rw} {g : Nat} (h : OwR w lo a n c rs) (hg : w.grownBy w' (some g)) (hlt : g < lo) : OwR w' lo a n c rs := by
  have ne : ∀ v : Value, (∀ y, v.ownBlock = some y → lo ≤ y) → v.ownBlock = none ∨ v.ownBlock ≠ some g := fun v hv => by
    cases e : v.ownBlock with
    | none => exact .inl rfl
    | some y => exact .inr (fun e2 => by have e3 := Option.some.inj e2; have := hv y e; omega)
  exact ⟨h.own.kept hg (ne _ h.new), h.len, h.new, fun r hr => (h.each r hr).kept hg (ne _ (h.each r hr).new), h.apart⟩
/-- all blocks but those of p lie as they lay -/
structure Fz (p : Nat → Prop) (w w' : World) : Prop where
  os : w'.os = w.os
  tape : w'.tape = w.tape
  output : w'.output = w.output
  size : w.heap.size ≤ w'.heap.size
  block : ∀ k, k < w.heap.size → ¬ p k → w'.heap[k]? = w.heap[k]?
theorem Fz.refl (p : Nat → Prop) (w : World) : Fz p w w := ⟨rfl, rfl, rfl, Nat.le_refl _, fun _ _ _ => rfl⟩
theorem Fz.step {p : Nat → Prop} {a w w' : World} {r : Option Nat} (f : Fz p a w) (h : w.grownBy w' r) (hr : ∀ k, r = some k → k < a.heap.size → p k) : Fz p a w' :=
  ⟨h.os.trans f.os, h.tape.trans f.tape, h.output.trans f.output, Nat.le_trans f.size h.size, fun k hk hn => (h.block k (Nat.lt_of_lt_of_le hk f.size) (fun e => hn (hr k e.symm hk))).trans (f.block k hk hn)⟩
theorem Fz.trans {p q : Nat → Prop} {a b c : World} (h : Fz p a b) (k : Fz q b c) (hq : ∀ i, i < a.heap.size → q i → p i) : Fz p a c :=
  ⟨k.os.trans h.os, k.tape.trans h.tape, k.output.trans h.output, Nat.le_trans h.size k.size, fun i hi hn => (k.block i (Nat.lt_of_lt_of_le hi h.size) (fun e => hn (hq i hi e))).trans (h.block i hi hn)⟩
theorem Fz.grown {p : Nat → Prop} {a b c : World} (h : a.grownBy b none) (k : Fz p b c) (hp : ∀ i, p i → a.heap.size ≤ i) : a.grownBy c none :=
  ⟨k.os.trans h.os, k.tape.trans h.tape, k.output.trans h.output, Nat.le_trans h.size k.size, fun i hi hn => (k.block i (Nat.lt_of_lt_of_le hi h.size) (fun e => by have := hp i e; omega)).trans (h.block i hi hn)⟩
/-- the blocks that rows own -/
def Ofr (v : Value) (rs : List Rw) (i : Nat) : Prop := v.ownBlock = some i ∨ ∃ r, r ∈ rs ∧ r.v.ownBlock = some i
theorem BxS.loadA {w : World} {g : Nat} {t e : TypeId} {k : Nat} {cs : Array Value} (h : BxS w g t cs) (hu : Try.prog.underlying t = some (.array k e)) (hi : (Try.prog.info? t).map (·.size) = some cs.size) :
    (loadVar t ⟨g, 0, none⟩).run Try.prog w = .ok (.agg cs) w := run_loadVar_row w g t t cs (0, 0) (.array k e) h hu rfl hi
theorem kres_cell1 {fn : Func} {p : Tmp} {ty : TypeId} (h : fn.results = #[.cell p ty]) (tmps : Array Value) (P : Program) (w : World) (a : Addr) (v : Value) (ha : tmps.getD p undef = .pointer (some a)) (hl : (loadVar ty a).run P w = .ok v w) :
    (results fn tmps).run P w = .ok v w := by
  simp only [results, h]
  rw [Array.getD_eq_getD_getElem?] at ha
  simp [Sem.run_bind, Result.andThen]
  rw [ha]
  simp [asAddr, hl]
theorem Try.info_h5 : (Try.prog.info? 78).map (fun i => i.size) = some 5 := by kernel_rfl
/-- five bytes -/
def fvA (x0 x1 x2 x3 x4 : Nat) : Array Value := #[.int .u8 x0, .int .u8 x1, .int .u8 x2, .int .u8 x3, .int .u8 x4]
/-- an order's name: its craft and two bits -/
def naN (cr : Nat) (bp co : Bool) : Nat := bp.toNat * 8192 + co.toNat * 4096 + cr
def hoL (cr : Nat) (bp co : Bool) (all sq : Nat) : List Nat := [naN cr bp co / 256, naN cr bp co % 256, (all - 1) / 256, (all - 1) % 256, sq]
def hoA (cr : Nat) (bp co : Bool) (all sq : Nat) : Array Value := fvA (naN cr bp co / 256) (naN cr bp co % 256) ((all - 1) / 256) ((all - 1) % 256) sq
theorem or_in (h r c : Nat) (hr : r < 4096) (hc : c < 2) : (h * 8192 + r) ||| (c * 4096) = h * 8192 + c * 4096 + r := by
  have e1 : h * 8192 + r = (h * 2 ^ 13) ||| r := (or_nat h r 13 (by omega)).symm
  rw [e1, Nat.or_assoc, Nat.or_comm r, show c * 4096 = c * 2 ^ 12 from rfl, or_nat c r 12 (by omega), or_nat h _ 13 (by omega)]
  omega
set_option maxHeartbeats 4000000 in
theorem khead_any (cr : Nat) (bp co : Bool) (sq all : Nat) (a : Option Addr) (n c : Nat) (w : World) (hcr : cr < 1024) (hsq : sq < 256) (h1 : 1 ≤ all) (h2 : all ≤ 65536) :
    Calls Try.prog 37 #[.agg (orA cr bp co sq a n c), .int .i64 all] w fun e w' => e = .returned (.agg (hoA cr bp co all sq)) ∧ w.grownBy w' none := by
  have b0 := BxS.new w 62 (orA cr bp co sq a n c)
  have g0 := World.grownBy_alloc w (.cells (orA cr bp co sq a n c) 62) none
  unfold orA at b0 g0 ⊢
  generalize hw0 : w.alloc (.cells #[.int .i64 (cr : Int), .bool bp, .bool co, .int .i64 (sq : Int), .slice a n c] 62) = w0 at b0 g0
  have z0 := BxS.new w0 78 #[.int .u8 0, .int .u8 0, .int .u8 0, .int .u8 0, .int .u8 0]
  have g1 := World.grownBy_alloc w0 (.cells #[.int .u8 0, .int .u8 0, .int .u8 0, .int .u8 0, .int .u8 0] 78) none
  generalize hw1 : w0.alloc (.cells #[.int .u8 0, .int .u8 0, .int .u8 0, .int .u8 0, .int .u8 0] 78) = w1 at z0 g1
  have b1 := b0.keep g1 (by simp)
  obtain ⟨c0, c1, c2, c3, c4⟩ := b1.cell5
  have p1 := toNat_le bp
  have p2 := toNat_le co
  have i5 := Try.info_h5
  have hA : bits .or .i64 (bits .or .i64 (cr : Int) ((bp.toNat : Int) * 8192)) ((co.toNat : Int) * 4096) = ((naN cr bp co : Nat) : Int) := by
    rw [show ((bp.toNat : Int) * 8192) = ((bp.toNat * 8192 : Nat) : Int) by omega, show ((co.toNat : Int) * 4096) = ((co.toNat * 4096 : Nat) : Int) by omega, i64_or_n _ _ (by omega) (by omega), Nat.or_comm,
      show bp.toNat * 8192 = bp.toNat * 2 ^ 13 from rfl, or_nat _ _ 13 (by omega), i64_or_n _ _ (by omega) (by omega), or_in _ _ _ (by omega) p2]
    rfl
  have hN : naN cr bp co < 65536 := by unfold naN; omega
  unfold hoA
  generalize naN cr bp co = N at hA hN ⊢
  obtain ⟨m, rfl⟩ : ∃ m, all = m + 1 := ⟨all - 1, by omega⟩
  rw [Nat.add_sub_cancel]
  have hm : ((m + 1 : Nat) : Int) - 1 = (m : Int) := by omega
  have hb0 : IntKind.u8.wrap ((N : Int) / 256) = ((N / 256 : Nat) : Int) := by rw [IntKind.wrap_u8']; omega
  have hb1 : IntKind.u8.wrap (N : Int) = ((N % 256 : Nat) : Int) := by rw [IntKind.wrap_u8']; omega
  have hb2 : IntKind.u8.wrap ((m : Int) / 256) = ((m / 256 : Nat) : Int) := by rw [IntKind.wrap_u8']; omega
  have hb3 : IntKind.u8.wrap (m : Int) = ((m % 256 : Nat) : Int) := by rw [IntKind.wrap_u8']; omega
  unfold fvA
  go_enter Try.func37, Try.ntmps37
  go_wp2
  go_quiet ((go_at_call 24; exact Calls.quiet_of_same (bitIf_any _ _ _)))
  have g2 := grown_drewN w1 nq none
  have b2 := b1.keep g2 (by simp)
  have z2 := z0.keep g2 (by simp)
  generalize w1.drewN nq = w2 at g2 b2 z2 ⊢
  clear c0 c1 c2 c3 c4
  obtain ⟨c0, c1, c2, c3, c4⟩ := b2.cell5
  have t1 : True := trivial
  go_wp2_with (first
    | (have _t := t1; refine wpList_stX _ rfl _ (.tmp 4) (.tmp 32) rfl w0.heap.size _ _ rfl rfl z2 i5 rfl (by simp [Value.oneCell']) ?_; clear t1; intro w9 b9 g9))
  refine bodyPost_ret (kres_cell1 rfl _ _ _ ⟨w0.heap.size, 0, none⟩ _ rfl (BxS.loadA (t := 78) b9 Try.underlying78 Try.info_h5)) rfl ?_
  exact ⟨rfl, grown_far (grown_trans (grown_trans g0 g1) g2) g9 (fun q e => by cases e; exact g0.size)⟩
/-- an order's bytes -/
def orP (cr : Nat) (bp co : Bool) (sq : Nat) (D : List Nat) : List Nat := hoL cr bp co (D.length + 7) sq ++ D
def orL (cr : Nat) (bp co : Bool) (sq : Nat) (D : List Nat) : List Nat := orP cr bp co sq D ++ [sumB (orP cr bp co sq D) / 256, sumB (orP cr bp co sq D) % 256]
theorem sumB_lt (L : List Nat) : sumB L < 65536 := crN_lt _ _
theorem rd_five {w : World} {g : Nat} {t : TypeId} {x0 x1 x2 x3 x4 : Nat} (h : BxS w g t (fvA x0 x1 x2 x3 x4)) (h0 : x0 < 256) (h1 : x1 < 256) (h2 : x2 < 256) (h3 : x3 < 256) (h4 : x4 < 256) : Rd w (some ⟨g, 0, none⟩) 5 5 [x0, x1, x2, x3, x4] := by
  unfold fvA at h
  obtain ⟨c0, c1, c2, c3, c4⟩ := h.cell5
  refine ⟨rfl, Nat.le_refl _, by unfold maxLen; omega, (fun h => by cases h), (fun x hx => by simp at hx; omega), fun _ => ⟨g, 0, rfl, h.lt, fun i hi => ?_⟩⟩
  rw [Nat.zero_add]
  match i, hi with
  | 0, _ => exact c0
  | 1, _ => exact c1
  | 2, _ => exact c2
  | 3, _ => exact c3
  | 4, _ => exact c4
  | i + 5, h => omega
theorem rd_two (w : World) (z0 z1 : Int) (x0 x1 : Nat) (e0 : z0 = x0) (e1 : z1 = x1) (h0 : x0 < 256) (h1 : x1 < 256) : Rd (w.alloc (.cells #[.int .u8 z0, .int .u8 z1] 5)) (some ⟨w.heap.size, 0, none⟩) 2 2 [x0, x1] := by
  subst e0 e1
  have hB : Blk (w.alloc (.cells #[.int .u8 (x0 : Int), .int .u8 (x1 : Int)] 5)) w.heap.size [x0, x1] := heap_alloc_new w _
  exact hB.rd (by intro x hx; simp at hx; omega) rfl (by decide)
set_option maxHeartbeats 8000000 in
theorem obytes_any (cr : Nat) (bp co : Bool) (sq : Nat) (a : Option Addr) (n c : Nat) (D : List Nat) (w : World) (hR : Rd w a n c D) (hcr : cr < 1024) (hsq : sq < 256) (h1 : 1 ≤ n) (h2 : n ≤ 1017) :
    Calls Try.prog 48 #[.agg (orA cr bp co sq a n c)] w fun e w' => ∃ a' c', e = .returned (.slice a' (n + 7) c') ∧ Ans w' w.heap.size a' (n + 7) c' (orL cr bp co sq D) ∧ w.grownBy w' none := by
  have HL : Hid (D.length = n) := hR.len
  have hH := fun wz => khead_any cr bp co sq (n + 7) a n c wz hcr hsq (by omega) (by omega)
  have b0 := BxS.new w 62 (orA cr bp co sq a n c)
  have g0 := World.grownBy_alloc w (.cells (orA cr bp co sq a n c) 62) none
  have p1 := toNat_le bp
  have p2 := toNat_le co
  have hN : naN cr bp co < 65536 := by unfold naN; omega
  have HP : Hid (orP cr bp co sq D = [naN cr bp co / 256, naN cr bp co % 256, (n + 6) / 256, (n + 6) % 256, sq] ++ D) := by show _ = _; unfold orP hoL; rw [HL.out]; rfl
  unfold hoA at hH
  unfold orL
  unfold orA at hH b0 g0 ⊢
  generalize naN cr bp co = N at hH hN HP
  generalize orP cr bp co sq D = P at HP ⊢
  have hS := sumB_lt P
  rw [show n + 7 - 1 = n + 6 from rfl] at hH
  have f0 : N / 256 < 256 := by omega
  have f1 : N % 256 < 256 := by omega
  have f2 : (n + 6) / 256 < 256 := by omega
  have f3 : (n + 6) % 256 < 256 := by omega
  generalize N / 256 = q0 at hH HP f0
  generalize N % 256 = q1 at hH HP f1
  generalize (n + 6) / 256 = q2 at hH HP f2
  generalize (n + 6) % 256 = q3 at hH HP f3
  unfold fvA at hH
  generalize hw0 : w.alloc (.cells #[.int .i64 (cr : Int), .bool bp, .bool co, .int .i64 (sq : Int), .slice a n c] 62) = w0 at b0 g0
  obtain ⟨c0, c1, c2, c3, c4⟩ := b0.cell5
  have hall : (5 : Int) + (n : Int) + 2 = ((n + 7 : Nat) : Int) := by omega
  have t1 : True := trivial
  go_enter Try.func48, Try.ntmps48
  go_wp2_with (first
    | (go_at_call 37; have _t := t1; clear t1; refine (hH _).mono ?_; rintro e w1 ⟨rfl, g1⟩))
  have F1 := BxS.new w1 78 (fvA q0 q1 q2 q3 sq)
  have gA := World.grownBy_alloc w1 (.cells (fvA q0 q1 q2 q3 sq) 78) none
  unfold fvA at F1 gA
  have hR1 := hR.keep (grown_trans (grown_trans g0 g1) gA)
  have b1 := (b0.keep g1 (by simp)).keep gA (by simp)
  have hz2 : w.heap.size ≤ w1.heap.size := (grown_trans g0 g1).size
  generalize w1.alloc (.cells #[.int .u8 (q0 : Int), .int .u8 (q1 : Int), .int .u8 (q2 : Int), .int .u8 (q3 : Int), .int .u8 (sq : Int)] 78) = w2 at F1 gA hR1 b1 ⊢
  have G2 := grown_trans (grown_trans g0 g1) gA
  have F2 := rd_five F1 f0 f1 f2 f3 hsq
  clear c0 c1 c2 c3 c4
  obtain ⟨i0, hi, hz0, hz1, hz2'⟩ := info_parts Try.info_u8
  obtain ⟨w3, hrun, r1, g3⟩ := run_make_own (P := Try.prog) w2.drew w2.heap.size 29 5 i0 (.int .u8 0) 1 Try.underlying29 hi hz0 hz1 .i64 .i64 (n + 7) (by rw [hz2']; omega) (by unfold maxLen; omega) (Nat.le_refl _)
  have hA3 := own_nil w3 w2.heap.size _ _ r1 (Nat.le_refl _)
  rw [show ((n + 7 : Nat) : Int) = (n : Int) + 7 from rfl] at hrun
  have g23 := grown_trans (grown_drew w2 none) g3
  have hM3 : Mine w2 none (some ⟨w2.heap.size, 0, none⟩) 0 (n + 7) := fun g e => .inr (by have e' : w2.heap.size = g := Option.some.inj e; omega)
  have F3 := F2.keep g23
  go_region_law (first
    | (refine step_join w2 w3 rfl (.tmp 16) (.tmp 17) rfl _ 0 _ w2.heap.size none _ rfl hA3 g23 hM3 (Nat.le_refl _) _ 5 _ _ rfl F3 (by decide) (by omega) ?_; intro gx cx w4 hA4 hG4 hM4))
  simp only [Nat.zero_add, List.nil_append] at hA4 hM4
  have b4 := b1.keep hG4 (by simp)
  obtain ⟨c0, c1, c2, c3, c4⟩ := b4.cell5
  have hR4 := hR1.keep hG4
  have t3 : True := trivial
  go_wp2_with (first
    | (at_builtin; have _t := t3; clear t3; refine wpList_join w2 w4 rfl (.tmp 19) (.tmp 21) rfl _ _ _ w2.heap.size none _ rfl hA4 hG4 hM4 (Nat.le_refl _) a n c D rfl hR4 (by omega) (by omega) ?_; intro gy cy w5 hA5 hG5 hM5; rw [← HP.out] at hA5; have t4 : True := trivial)
    | (go_at_call 34; refine (fsum_any _ _ _ P w5 hA5.rd).mono ?_; rintro e wx ⟨rfl, hw⟩; have hw := hw.symm; subst hw; have gB := fun z0 z1 : Int => World.grownBy_alloc w5 (.cells #[.int .u8 z0, .int .u8 z1] 5) none; have t5 : True := trivial)
    | (at_builtin; have _t := t5; clear t5; refine wpList_join w2 _ rfl (.tmp 25) (.tmp 31) rfl _ _ _ w2.heap.size none P rfl (hA5.keep (gB _ _)) (grown_trans hG5 (gB _ _)) hM5 (Nat.le_refl _) _ 2 2 [sumB P / 256, sumB P % 256] rfl (rd_two w5 _ _ _ _ (by omega) (by omega) (by omega) (by omega)) (by decide) (by omega) ?_; intro gz cz w6 hA6 hG6 hM6))
  go_ret
  rw [show 5 + n + 2 = n + 7 by omega] at hA6 ⊢
  exact ⟨_, _, rfl, hA6.wide G2.size, grown_trans G2 hG6⟩

theorem step_apS (w : World) {ops : Array Oper} {o : Oper} {a : Act} {K : Act → World → Prop} {Q : Exit → Act → World → Prop} {E : Prop} (hg : o.guard = none) (s x : Operand) (t e : TypeId) (i0 : TypeInfo) (z : Value) (sz by' : Nat) (hu : Try.prog.underlying t = some (.slice e)) (hi : Try.prog.info? e = some i0) (hz0 : i0.zero = some z) (hz1 : i0.size = sz) (hz2 : i0.bytes = by') (hzs : z.cells.size = sz) (hsz : 0 < sz)
    (hop : o.op = Op.call { callee := .builtin .append, args := #[s, x], argTypes := #[t, t] }) (v : Value) (n : Nat) (xs : List Value) (hs : a.eval s = v)
    (hown : w.ownsRow 0 e sz v n xs) (ad : Addr) (m c : Nat) (news : List Value) (hx : a.eval x = .slice (some ad) m c) (hn : news.length = m * sz)
    (hc : ∀ j u, news[j]? = some u → w.cell? (ad.add j) = some u) (h1 : ∀ u, u ∈ news → u.oneCell' = true) (hm : 0 < m) (hb1 : n + m ≤ maxLen) (hb2 : (n + m) * by' ≤ 140737488355328)
    (hK : ∀ g cap w', (v.ownBlock = some g ∨ w.heap.size ≤ g) → w.grownBy w' v.ownBlock → w'.ownsRow 0 e sz (.slice (some ⟨g, 0, none⟩) (n + m) cap) (n + m) (xs ++ news) →
      K (a.put o.dst (.slice (some ⟨g, 0, none⟩) (n + m) cap)) w') :
    if Region.wanted o (yielded ops a.tmps) = true then Oper.wp Try.prog o a w K Q else E := by
  have grow : ∀ (ao : Option Addr) (cap : Nat), v = .slice ao n cap → (ao = none → n = 0 ∧ cap = 0) → (∀ b, ao = some b → ∀ j u, xs[j]? = some u → w.cell? (b.add j) = some u) → cap < n + m → if Region.wanted o (yielded ops a.tmps) = true then Oper.wp Try.prog o a w K Q else E := by
    intro ao cap hv hnone hcells hfull
    refine step_append_grows hg s x t hop e i0 z sz by' hu hi hz0 hz1 hz2 hzs hsz ao n cap xs (by rw [hs, hv]) hnone (by rw [hown.1]) hcells ad m c news hx hn hc h1 hfull hb1 hb2 ?_
    intro v' w' hown' hgr
    rcases hown'.2 with ⟨_, h0⟩ | ⟨g, cap', cur, rfl, hge, hrest⟩
    · omega
    · exact hK g cap' w' (.inr hge) (grown_weak hgr _) (own_baseG hown')
  rcases hown.2 with ⟨rfl, h0⟩ | ⟨g, cap, cur, rfl, hbase, hh, hle, hmax, hsz', htake⟩
  · subst h0
    exact grow none 0 rfl (fun _ => ⟨rfl, rfl⟩) (fun b hb => by cases hb) (by omega)
  · by_cases hroom : n + m ≤ cap
    · refine step_append_fits hg s x t hop 0 e i0 sz hu hi hz1 g n cap xs hs hown ad m c news hx hn hc h1 hroom ?_
      intro w' hown' hgr
      exact hK g cap w' (.inl rfl) hgr hown'
    · refine grow (some ⟨g, 0, none⟩) cap rfl (fun h => by cases h) ?_ (by omega)
      intro b hb j u hu
      cases hb
      exact hown.cells (g := g) rfl j u hu
/-- blocks of different types are different -/
theorem BxS.apart {w : World} {g h : Nat} {t u : TypeId} {A B : Array Value} (x : BxS w g t A) (y : BxS w h u B) (hne : t ≠ u) : g ≠ h := by
  intro e
  subst e
  have : some (Obj.cells A t) = some (.cells B u) := (show w.heap[g]? = _ from x).symm.trans y
  injection this with this
  injection this with _ ht
  exact hne ht
theorem Ans.apart {w : World} {lo g n cap : Nat} {a : Option Addr} {L : List Nat} {u : TypeId} {B : Array Value} (h : Ans w lo a n cap L) (y : BxS w g u B) (hne : 5 ≠ u) : (Value.slice a n cap).ownBlock ≠ some g := by
  intro e
  rcases h.own.2 with ⟨h1, h2⟩ | ⟨q, c1, cur, h1, _, h3, _⟩
  · simp only [Value.slice.injEq] at h1
    obtain ⟨rfl, rfl, rfl⟩ := h1
    simp [Value.ownBlock] at e
  · simp only [Value.slice.injEq] at h1
    obtain ⟨rfl, _, _⟩ := h1
    have e' : q = g := Option.some.inj e
    subst e'
    exact BxS.apart (show BxS w q 5 cur from h3) y hne rfl
end
end Go.Proofs.Ytlfacjpehhcdiaa
