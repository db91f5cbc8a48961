import Derived.Test.YthdjpbfknbafgaaLi5
import Derived.Test.YthdjpbfknbafgaaProg
import Derived.WalkKit
namespace Go.Proofs.Ythdjpbfknbafgaa
open Go.RowKit
set_option maxRecDepth 100000
set_option linter.unusedVariables false
set_option linter.unusedSimpArgs false

section
open Go.RowKit Go.Shelf

/-- What an iterator does for whoever ranges over it, where what it hands over is told with the world in which it is handed over (E). -/
def SeqE {α : Type} (F : Fence) (n : Nat) (P : Program) (g : Nat) (lb : Array Value) (encs : α → Array Value) (E : α → World → Prop) (Kp : World → World → Prop) (S Sp : List α → Prop) (N : Nat) (w : World) : Prop :=
  ∀ (l : Nat) (J Jx : List α → World → Prop) (W : World), Below w.heap.size w W → AbidesFrom W.heap.size J → AbidesFrom W.heap.size Jx →
    (∀ pre x W1, J pre W1 → E x W1 → pre.length < N → YieldAt F (n - 1) P l (encs x) W1 fun e W' =>
      (e = .returned (.bool true) ∧ J (pre ++ [x]) W' ∧ Kp W1 W') ∨ (e = .returned (.bool false) ∧ Jx (pre ++ [x]) W')) →
    J [] W →
    CallsIn F n P g (#[.func (.yield l) #[] #[]] ++ lb) W fun e W' => (∃ v, e = .returned v) ∧ ((∃ xs, S xs ∧ J xs W') ∨ (∃ pre, Sp pre ∧ Jx pre W'))
/-- a round's book-keeping behind its body -/
theorem round_ends {P : Program} {b : Nat} {rc : LoopState → Option Code → Loop} {W W3 : World} {B : Nat} (hs : ∀ s p s' p', { rc s p with state := s', pending := p' } = rc s' p') (hl : W.heap[b + 1]? = some (.loop (rc .ready none))) (hk : W.heap[b]? = some (.deferred (some [])))
    (hB : B ≤ b) (hk3 : KeepsFrom B (W.putObj (b + 1) (.loop { rc .ready none with state := .busy })) W3) (jump : Option Code) :
    (Instr.endRound (b + 1) jump).run P W3 = .ok (.bool jump.isNone) (W3.putObj (b + 1) (.loop (rc (if jump.isNone then .ready else .done) jump))) ∧ W3.heap[b + 1]? = some (.loop { rc .ready none with state := .busy }) ∧
      (W3.putObj (b + 1) (.loop (rc (if jump.isNone then .ready else .done) jump))).heap[b + 1]? = some (.loop (rc (if jump.isNone then .ready else .done) jump)) ∧ (W3.putObj (b + 1) (.loop (rc (if jump.isNone then .ready else .done) jump))).heap[b]? = some (.deferred (some [])) := by
  have hlt : b + 1 < W.heap.size := (Array.getElem?_eq_some_iff.1 hl).1
  have l3 := hk3.same (b + 1) _ (by omega) (World.putObj_heap_same hlt) rfl
  have k3 := hk3.same b _ hB ((World.putObj_heap_other (by omega)).trans hk) rfl
  have e := run_endRound (P := P) jump l3
  refine ⟨?_, l3, World.putObj_heap_same (Array.getElem?_eq_some_iff.1 l3).1, (World.putObj_heap_other (by omega)).trans k3⟩
  rw [e]
  congr 2
  simp [hs]
set_option maxHeartbeats 1000000 in
/-- A range over a function whose loop variable is boxed, where the round knows of what it is handed what the iterator tells (E). -/
theorem range_E {α : Type} {F : Fence} {n : Nat} {P : Program} {gop : Operand} {ps : Array Tmp} {assign body : Code} {Q : Exit → Act → World → Prop} {a : Act} {w : World}
    (hro : F.round = none) (h1 : 1 ≤ n) {gf : Nat} {lb : Array Value} (hg : a.eval gop = .func (.func gf) #[] lb) (hFg : F.fn gf) (eg : ∀ args w, (callFunc gf args).run P w = .ok (.enter gf args) w)
    {encs : α → Array Value} {E : α → World → Prop} {Kp : World → World → Prop} {S Sp : List α → Prop} {N : Nat} {w0 : World} (hseq : SeqE F (n - 1) P gf lb encs E Kp S Sp N w0)
    (hKt : ∀ {A B C : World}, Kp A B → Kp B C → Kp A C) (hKb : ∀ (W : World) (l : Nat) (o o' : Obj), w.heap.size ≤ l → W.heap[l]? = some o → o.isCells = false → o.isWalk = false → Kp W (W.putObj l o')) (hb0 : Below w0.heap.size w0 w) (hps : ∀ x, (encs x).size = ps.size)
    (I : List α → World → Prop) (Ix : Code → List α → World → Prop) (hI : OwnFrom w.heap.size I) (hIx : ∀ c, OwnFrom w.heap.size (Ix c)) (h0 : I [] w) (Ax : α → Act → World → Prop) (hAx : ∀ x a', OwnFrom w.heap.size (fun (_ : Unit) W => Ax x a' W))
    (hassign : ∀ (l : Nat) (pre : List α) (x : α) (W : World) (K : Act → World → Prop), I pre W → E x W → (∀ a' W', KeepsFrom w.heap.size W W' → Kp W W' → I pre W' → Ax x a' W' → K a' W') →
      assign.wpIn (F.inRound l) (n - 1 - 1) P (Exit.then K (fun _ _ _ => False)) { tmps := (ps.zip (encs x)).foldl (fun t (p, v) => t.setIfInBounds p v) a.tmps, defers := [] } W)
    (hbody : ∀ (l : Nat) (pre : List α) (x : α) (a' : Act) (W : World), I pre W → Ax x a' W → pre.length < N → body.wpIn (F.inRound l) (n - 1 - 1) P (ownPostG w.heap.size Kp I Ix (pre ++ [x]) W) a' W)
    (hdone : ∀ (D : Nat) (xs : List α) (W : World), w.heap.size ≤ D → S xs → I xs W → W.heap[D]? = some (.deferred (some [])) → Q .normal { a with defers := { target := .collected D, args := #[] } :: a.defers } W)
    (hstop : ∀ (D : Nat) (c : Code) (pre : List α) (W : World), w.heap.size ≤ D → Sp pre → Ix c pre W → W.heap[D]? = some (.deferred (some [])) → c.wpIn F n P Q { a with defers := { target := .collected D, args := #[] } :: a.defers } W) :
    (Code.rangeFunc gop ps assign body).wpIn F n P Q a w := by
  refine wpIn_rangeFunc ?_
  intro fn hfn
  rw [hro]
  obtain ⟨rc, hrc⟩ : ∃ rc : LoopState → Option Code → Loop, rc = fun st pe => { state := st, pending := pe, fn, tmps := a.tmps, params := ps, assign, body, defers := w.heap.size } := ⟨_, rfl⟩
  have hset : ∀ s p s' p', { rc s p with state := s', pending := p' } = rc s' p' := fun s p s' p' => by rw [hrc]
  have hW := World.alloc_heap_new (w.alloc (.deferred (some []))) (.loop (rc .ready none))
  rw [World.size_alloc] at hW
  have hD := (Below.heap_alloc (w.alloc (.deferred (some []))) (.loop (rc .ready none)) w.heap.size (by simp)).trans (World.alloc_heap_new w (.deferred (some [])))
  have hI1 := hI.alloc (.loop (rc .ready none)) (hI.alloc (.deferred (some [])) h0)
  have hb1 : Below w0.heap.size w0 ((w.alloc (.deferred (some []))).alloc (.loop (rc .ready none))) := hb0.trans ((((Below.refl _ w).alloc (Nat.le_refl _) _).alloc (by simp) _).mono hb0.size)
  have hs1 : w.heap.size + 2 = ((w.alloc (.deferred (some []))).alloc (.loop (rc .ready none))).heap.size := by simp
  refine ⟨w.heap.size + 1, [{ target := .collected w.heap.size, args := #[] }], (w.alloc (.deferred (some []))).alloc (.loop (rc .ready none)), { target := .fn (.func gf) lb, args := #[.func (.yield (w.heap.size + 1)) #[] #[]] }, (w.alloc (.deferred (some []))).alloc (.loop (rc .ready none)), gf,
    #[.func (.yield (w.heap.size + 1)) #[] #[]] ++ lb, (w.alloc (.deferred (some []))).alloc (.loop (rc .ready none)), ?_, ?_, ?_, ?_, fun _ => h1, ?_⟩
  · rw [hrc]; exact run_enterLoop_outer _ _ _ _ _
  · simp only [resolve, hg]
    simp [go_sem]
  · intro f' hf'; simp [Target.leads] at hf'; subst hf'; exact hFg
  · simp [invoke, go_sem, eg]
  generalize (w.alloc (.deferred (some []))).alloc (.loop (rc .ready none)) = W1 at *
  have walk : ∀ {A : World} {row : Option Nat}, (∀ r, row = some r → W1.heap.size ≤ r ∧ ∃ o : Obj, A.heap[r]? = some o ∧ o.isWalk = true) → ∀ r, row = some r → w.heap.size ≤ r ∧ ∃ o : Obj, A.heap[r]? = some o ∧ o.isCells = false := fun hr r e => by
    obtain ⟨hB, o, ho, hw⟩ := hr r e
    exact ⟨by omega, o, ho, Obj.not_cells_of_walk hw⟩
  refine (hseq (w.heap.size + 1) (fun pre W => I pre W ∧ W.heap[w.heap.size + 1]? = some (.loop (rc .ready none)) ∧ W.heap[w.heap.size]? = some (.deferred (some [])))
    (fun pre W => ∃ c, Ix c pre W ∧ W.heap[w.heap.size + 1]? = some (.loop (rc .done (some c))) ∧ W.heap[w.heap.size]? = some (.deferred (some []))) W1 hb1
    (fun s A B row hs hg' hr => ⟨hI s A B row hs.1 hg' (walk hr), (grownBy_keeps hg' (fun r e => (hr r e).2) hs.2.1 rfl).trans hs.2.1, (grownBy_keeps hg' (fun r e => (hr r e).2) hs.2.2 rfl).trans hs.2.2⟩)
    (fun s A B row ⟨c, hc, hl, hk⟩ hg' hr => ⟨c, hIx c s A B row hc hg' (walk hr), (grownBy_keeps hg' (fun r e => (hr r e).2) hl rfl).trans hl, (grownBy_keeps hg' (fun r e => (hr r e).2) hk rfl).trans hk⟩)
    ?_ ⟨hI1, hW, hD⟩).mono ?_
  · rintro pre x Wb ⟨hi, hl, hk⟩ hE hlen
    have hy := run_yield (P := P) (args := encs x) hl (by rw [hrc]; exact hps x)
    rw [hrc] at hy
    refine ⟨fn, _, assign, body, hy, roundIn_of_wpIn hfn (hassign _ pre x Wb _ hi hE ?_)⟩
    intro a' W hkf hkp hia hax
    have hl' := hkf.same _ _ (by omega) hl rfl
    have hk' := hkf.same _ _ (Nat.le_refl _) hk rfl
    refine ⟨_, run_beginRound hl' (by rw [hrc]), ?_⟩
    have hbusy : Kp W (W.putObj (w.heap.size + 1) (.loop { rc .ready none with state := .busy })) := hKb _ _ _ _ (by omega) hl' rfl rfl
    refine wpIn_mono (hbody _ pre x a' _ (hI.putObj _ hia (by omega) hl' rfl) ((hAx x a').putObj (s := ()) _ hax (by omega) hl' rfl) hlen) ?_
    have fin := fun (j : Option Code) (W3 : World) hk3 => round_ends (P := P) (B := w.heap.size) hset hl' hk' (Nat.le_refl _) (W3 := W3) hk3 j
    rintro e a3 W3 hp
    cases e with
    | normal =>
      obtain ⟨hk3, hkp3, hi3⟩ := hp
      obtain ⟨hr, hl3, hl4, hk4⟩ := fin none W3 hk3
      exact ⟨_, _, hr, .inl ⟨rfl, ⟨hI.putObj _ hi3 (by omega) hl3 rfl, hl4, hk4⟩, hKt hkp (hKt (hKt hbusy hkp3) (hKb _ _ _ _ (by omega) hl3 rfl rfl))⟩⟩
    | ret =>
      obtain ⟨hk3, hi3⟩ := hp
      obtain ⟨hr, hl3, hl4, hk4⟩ := fin (some .ret) W3 hk3
      exact ⟨_, _, hr, .inr ⟨rfl, .ret, (hIx _).putObj _ hi3 (by omega) hl3 rfl, hl4, hk4⟩⟩
    | exit id =>
      obtain ⟨hk3, hi3⟩ := hp
      obtain ⟨hr, hl3, hl4, hk4⟩ := fin (some (.exit id)) W3 hk3
      exact ⟨_, _, hr, .inr ⟨rfl, .exit id, (hIx _).putObj _ hi3 (by omega) hl3 rfl, hl4, hk4⟩⟩
    | goto t =>
      obtain ⟨hk3, hi3⟩ := hp
      obtain ⟨hr, hl3, hl4, hk4⟩ := fin (some (.goto t)) W3 hk3
      exact ⟨_, _, hr, .inr ⟨rfl, .goto t, (hIx _).putObj _ hi3 (by omega) hl3 rfl, hl4, hk4⟩⟩
    | panic ch => exact hp.elim
    | outgrown => exact hp.elim
  · rintro e W2 ⟨⟨v, rfl⟩, (⟨xs, hS, hi, hl, hk⟩ | ⟨pre, hSp, c, hi, hl, hk⟩)⟩
    · exact ⟨none, _, by have := run_endLoop (P := P) hl (by rw [hrc]; simp); rw [hrc] at this; exact this, hdone _ xs _ (Nat.le_refl _) hS (hI.putObj _ hi (by omega) hl rfl) ((World.putObj_heap_other (by omega)).trans hk)⟩
    · exact ⟨some c, _, by have := run_endLoop (P := P) hl (by rw [hrc]; simp); rw [hrc] at this; exact this, hstop _ c pre _ (Nat.le_refl _) hSp ((hIx c).putObj _ hi (by omega) hl rfl) ((World.putObj_heap_other (by omega)).trans hk)⟩
end

section
open Go.RowKit Go.Shelf
attribute [local go_sem] Oper.semAt_some

/-- the blocks of p lie as they lay, and none is gone -/
def KeepS (p : Nat → Prop) (W W' : World) : Prop := KeepB p W W' ∧ W.heap.size ≤ W'.heap.size
theorem KeepS.trans {p : Nat → Prop} {A B C : World} (h : KeepS p A B) (k : KeepS p B C) : KeepS p A C := ⟨h.1.trans k.1, Nat.le_trans h.2 k.2⟩
theorem KeepS.put {p : Nat → Prop} {w : World} (hp : ∀ k, p k → k < w.heap.size) (W : World) (l : Nat) (o o' : Obj) (hl : w.heap.size ≤ l) (h1 : W.heap[l]? = some o) (h2 : o.isCells = false) (h3 : o.isWalk = false) : KeepS p W (W.putObj l o') := ⟨KeepB.put hp W l o o' hl h1 h2 h3, by simp [World.putObj]⟩
/-- a frame as it is handed over, its bytes copied -/
abbrev Fy := Fv × Nat
def aggY (y : Fy) : Value := .agg #[.int .i64 y.1.p, .bool y.1.tu, .int .i64 y.1.mi, .slice y.1.a y.1.n y.2]
theorem flatF_at (fs : List Fv) (k : Nat) (f : Fv) (h : fs[k]? = some f) (j : Nat) (hj : j < 4) : (flatF fs)[k * 4 + j]? = (cellsF f)[j]? := by
  induction fs generalizing k with
  | nil => simp at h
  | cons a fs ih =>
    show (cellsF a ++ flatF fs)[k * 4 + j]? = _
    cases k with
    | zero =>
      simp only [List.getElem?_cons_zero, Option.some.injEq] at h
      subst h
      rw [Nat.zero_mul, Nat.zero_add, List.getElem?_append_left (by show j < 4; exact hj)]
    | succ k =>
      rw [List.getElem?_cons_succ] at h
      rw [List.getElem?_append_right (by show 4 ≤ _; omega)]
      have : (cellsF a).length = 4 := rfl
      rw [this, show (k + 1) * 4 + j - 4 = k * 4 + j from by omega]
      exact ih k h
set_option maxHeartbeats 2000000 in
theorem take2_in (m l fb base gv cv : Nat) (fs : List Fv) (p : Nat → Prop) (hm : 1 ≤ m) (hfb : p fb) (hgv : p gv) (J Jx : List Fy → World → Prop) (W : World) (hbase : base ≤ W.heap.size) (hpW : ∀ k, p k → k < W.heap.size)
    (hJ : AbidesFrom W.heap.size J)
    (hY : ∀ pre x W1, J pre W1 → Ans W1 base x.1.a x.1.n x.2 x.1.D → pre.length < fs.length → YieldAt Fence.wide (m - 1) Try.prog l #[aggY x] W1 fun e W' =>
      (e = .returned (.bool true) ∧ J (pre ++ [x]) W' ∧ KeepS p W1 W') ∨ (e = .returned (.bool false) ∧ Jx (pre ++ [x]) W'))
    (hb : Boxed W fb 33 (.slice (some ⟨gv, 0, none⟩) fs.length cv)) (hrow : W.ownsRow 0 42 4 (.slice (some ⟨gv, 0, none⟩) fs.length cv) fs.length (flatF fs))
    (hok : ∀ f, f ∈ fs → Ans W 0 f.a f.n f.n f.D ∧ 0 < f.n ∧ f.n ≤ 2048 ∧ ∀ x, (Value.slice f.a f.n f.n).ownBlock = some x → p x) (hlen : fs.length ≤ 4194304) (h0 : J [] W) :
    CallsIn Fence.wide m Try.prog 28 #[.func (.yield l) #[] #[], .pointer (some ⟨fb, 0, none⟩)] W fun e W' => (∃ v, e = .returned v) ∧
      ((∃ ys : List Fy, ys.map (fun y => absF y.1) = fs.map absF ∧ J ys W') ∨ (∃ pre, True ∧ Jx pre W')) := by
  have hc0 := hb.cell
  refine callsIn_of_wp Try.func28 rfl trivial ?_ rfl
  simp only [Try.ntmps28, List.size_toArray, List.length_cons, List.length_nil, Nat.reduceAdd, Nat.reduceSub, Array.replicate_succ, Array.replicate_zero, List.push_toArray, List.append_toArray, List.nil_append, List.cons_append]
  gi_wp2
  gi_loopw [7] (fun i wr => ∃ (k : Nat) (pre : List Fy), k ≤ fs.length ∧ i = .int .i64 k ∧ Hid (pre.map (fun y => absF y.1) = (fs.take k).map absF) ∧ J pre wr ∧ KeepB p W wr ∧ W.heap.size ≤ wr.heap.size) (fun i _ => fs.length - (intOf i).toNat)
  case atStart => exact ⟨0, [], Nat.zero_le _, rfl, rfl, h0, KeepB.refl _ _, Nat.le_refl _⟩
  case round =>
    obtain ⟨k, pre, hk, rfl, HP, hJs, hkp, hsz⟩ := hrel
    have hpl : pre.length = k := by have := congrArg List.length HP.out; simp at this; omega
    by_cases hlt : k < fs.length
    · obtain ⟨f, hf⟩ : ∃ f, fs[k]? = some f := ⟨fs[k], List.getElem?_eq_getElem hlt⟩
      have hfm : f ∈ fs := List.mem_of_getElem? hf
      obtain ⟨hA, hn0, hn1, hfp⟩ := hok f hfm
      have hrw : wr.ownsRow 0 42 4 (.slice (some ⟨gv, 0, none⟩) fs.length cv) fs.length (flatF fs) := by
        refine ⟨hrow.1, ?_⟩
        rcases hrow.2 with ⟨h2, _⟩ | ⟨g', cap, cur, h3, h4, h5, h6⟩
        · cases h2
        · cases h3
          exact .inr ⟨gv, cv, cur, rfl, h4, (hkp gv hgv).trans h5, h6⟩
      have cc : ∀ j u, (cellsF f)[j]? = some u → wr.cell? ⟨gv, k * 4 + j, none⟩ = some u := fun j u hu => by
        have hj : j < 4 := (List.getElem?_eq_some_iff.1 hu).1
        have h := hrw.cells (g := gv) rfl (k * 4 + j) u ((flatF_at fs k f hf j hj).trans hu)
        rw [addr_add, Nat.zero_add] at h
        exact h
      have x0 := cc 0 _ rfl
      have x1 := cc 1 _ rfl
      have x2 := cc 2 _ rfl
      have x3 := cc 3 _ rfl
      rw [Nat.add_zero] at x0
      have hAr : Ans wr 0 f.a f.n f.n f.D := ⟨⟨hA.own.1, by
        rcases hA.own.2 with h2 | ⟨g', cap, cur, h3, h4, h5, h6⟩
        · exact .inl h2
        · exact .inr ⟨g', cap, cur, h3, h4, (hkp g' (hfp g' (by rw [h3]; rfl))).trans h5, h6⟩⟩, hA.byte, hA.new⟩
      clear cc
      obtain ⟨ga, hga⟩ : ∃ ga, f.a = some ⟨ga, 0, none⟩ := (hAr.cases).elim (fun h => absurd h.2.1 (by omega)) (fun h => h.elim fun g hg => ⟨g, hg.1⟩)
      have gA := World.grownBy_alloc wr (.cells #[.int .i64 f.p, .bool f.tu, .int .i64 f.mi, .slice f.a f.n f.n] 42) none
      have hnewb := heap_alloc_new wr (.cells #[.int .i64 f.p, .bool f.tu, .int .i64 f.mi, .slice f.a f.n f.n] 42)
      have hszA : (wr.alloc (.cells #[.int .i64 f.p, .bool f.tu, .int .i64 f.mi, .slice f.a f.n f.n] 42)).heap.size = wr.heap.size + 1 := by simp
      have hCl := clone_any ga 0 f.n f.n f.D _ (by have := (hAr.keep gA).rd; rw [hga] at this; exact this) hn0 (by omega)
      rw [hga] at gA hnewb hszA
      obtain ⟨fp, ftu, fmi, fa, fn', fD⟩ := f
      simp only at hga hn0 hn1 x0 x1 x2 x3 gA hnewb hszA hCl
      subst hga
      have HF : Hid (fs[k]? = some ⟨fp, ftu, fmi, some ⟨ga, 0, none⟩, fn', fD⟩) := hf
      clear hf hfm hok hfp hA hAr
      gi_wp2_with (refine ⟨trivial, ?_⟩; gi_at_call 29; refine (callsIn_wide.2 hCl).mono ?_; rintro e w2 ⟨g', c', rfl, hA2, g2⟩; have hb2 := (g2.block wr.heap.size (by omega) (by simp)).trans hnewb; have z0 := cell_of_row w2 _ 0 _ _ _ hb2; have z1 := cell_of_row w2 _ 1 _ _ _ hb2; have z2 := cell_of_row w2 _ 2 _ _ _ hb2; have z3 := cell_of_row w2 _ 3 _ _ _ hb2; have y3 := frozen_of_row w2 _ 3 _ _ hb2; have hgW := grown_far (grown_trans gA g2) (grown_set w2 wr.heap.size 3 (.slice (some ⟨g', 0, none⟩) fn' c')) (fun x e => by cases e; exact Nat.le_refl _); have hA3 := (hA2.kept (grown_set w2 wr.heap.size 3 (.slice (some ⟨g', 0, none⟩) fn' c')) (.inr (by simp only [Value.ownBlock]; intro e; have := hA2.new g' rfl; have := Option.some.inj e; omega))).wide (show base ≤ _ by omega); have hJ3 := hJ pre wr _ none hJs hgW (fun r e => by cases e); obtain ⟨fn, tmps, assign, body, hy, hR⟩ := hY pre (⟨fp, ftu, fmi, some ⟨g', 0, none⟩, fn', fD⟩, c') _ hJ3 hA3 (by omega); unfold aggY at hy; dsimp only at hy)
      have HFx : Hid ((fs.take (k + 1)).map absF = (fs.take k).map absF ++ [(fp, ftu, fmi, fD)]) := by
        show _ = _
        rw [List.take_add_one, HF.out, List.map_append]; rfl
      refine hR.mono ?_
      rintro e W3 (⟨rfl, hJ4, hk4⟩ | ⟨rfl, hJx4⟩)
      · gi_wp2
        go_roundw
        case rel =>
          refine ⟨k + 1, _, by omega, by simp, ?_, hJ4, fun i hi => (hk4.1 i hi).trans ((hgW.block i (by have := hpW i hi; omega) (by simp)).trans (hkp i hi)), Nat.le_trans hsz (Nat.le_trans hgW.size hk4.2)⟩
          show _ = _
          rw [List.map_append, HP.out, HFx.out]; rfl
        case measure => simp [intOf]; omega
      · gi_wp2
        refine bodyPost_ret (results_none rfl _ _ _) rfl ?_
        exact ⟨⟨_, rfl⟩, .inr ⟨_, trivial, hJx4⟩⟩
    · obtain rfl : k = fs.length := by omega
      gi_wp2
      go_end0
      exact ⟨⟨_, rfl⟩, .inl ⟨pre, by rw [HP.out, List.take_length], hJs⟩⟩
set_option maxHeartbeats 1000000 in
theorem take20_in (m l fb cv : Nat) (ao : Option Addr) (hm : 1 ≤ m) (J Jx : List Fy → World → Prop) (W : World) (hb : Boxed W fb 33 (.slice ao 0 cv)) (h0 : J [] W) :
    CallsIn Fence.wide m Try.prog 28 #[.func (.yield l) #[] #[], .pointer (some ⟨fb, 0, none⟩)] W fun e W' => (∃ v, e = .returned v) ∧
      ((∃ ys : List Fy, ys.map (fun y => absF y.1) = ([] : List Fv).map absF ∧ J ys W') ∨ (∃ pre, True ∧ Jx pre W')) := by
  have hc0 := hb.cell
  refine callsIn_of_wp Try.func28 rfl trivial ?_ rfl
  simp only [Try.ntmps28, List.size_toArray, List.length_cons, List.length_nil, Nat.reduceAdd, Nat.reduceSub, Array.replicate_succ, Array.replicate_zero, List.push_toArray, List.append_toArray, List.nil_append, List.cons_append]
  gi_wp2
  gi_loopw [7] (fun i wr => i = .int .i64 0 ∧ J [] wr ∧ wr = W) (fun i _ => 0)
  case atStart => exact ⟨rfl, h0, rfl⟩
  case round =>
    obtain ⟨rfl, hJs, rfl⟩ := hrel
    gi_wp2
    go_end0
    exact ⟨⟨_, rfl⟩, .inl ⟨[], rfl, hJs⟩⟩
/-- the blocks in which what is told lies -/
def FdP (fb : Nat) (v : Value) (fs : List Fv) (k : Nat) : Prop := k = fb ∨ some k = v.ownBlock ∨ ∃ f, f ∈ fs ∧ some k = (Value.slice f.a f.n f.n).ownBlock
theorem FdB.lt {w : World} {fb : Nat} {v dv : Value} {fs : List Fv} (h : FdB w fb v dv fs) (k : Nat) (hk : FdP fb v fs k) : k < w.heap.size := by
  rcases hk with rfl | hk | ⟨f, hf, hk⟩
  · exact h.box.lt
  · exact (row_lt h.row hk.symm).1
  · exact (row_lt (h.ok f hf).1.own hk.symm).1
theorem take2_stops (m base fb : Nat) (v dv : Value) (fs : List Fv) (w : World) (hm : 1 ≤ m) (h : FdB w fb v dv fs) (hn : ∀ f, f ∈ fs → 0 < f.n ∧ f.n ≤ 2048) (hlen : fs.length ≤ 4194304) (hbase : base ≤ w.heap.size) :
    SeqE Fence.wide m Try.prog 28 #[.pointer (some ⟨fb, 0, none⟩)] (fun y : Fy => #[aggY y]) (fun y W => Ans W base y.1.a y.1.n y.2 y.1.D) (KeepS (FdP fb v fs)) (fun ys => ys.map (fun y => absF y.1) = fs.map absF) (fun _ => True) fs.length w := by
  intro l J Jx W hW hJ _ hY h0
  have F1 : Frm (fun _ => False) w W := ⟨hW.os, hW.tape, hW.output, hW.size, fun k hk _ => hW.block k hk⟩
  have hb := box_frm h.box F1 (fun h => h)
  have hr := row_frm h.row F1 (fun _ _ h => h)
  rcases h.row.2 with ⟨hv, hl⟩ | ⟨gv, cv, cur, hv, _⟩
  · subst hv
    have : fs = [] := List.eq_nil_of_length_eq_zero hl
    subst this
    exact take20_in m l fb 0 none hm J Jx W hb h0
  · subst hv
    refine take2_in m l fb base gv cv fs (FdP fb _ fs) hm (.inl rfl) (.inr (.inl rfl)) J Jx W (Nat.le_trans hbase hW.size) (fun k hk => Nat.lt_of_lt_of_le (h.lt k hk) hW.size) hJ hY hb hr (fun f hf => ⟨(h.ok f hf).1.frm F1 (fun _ _ h => h), (hn f hf).1, (hn f hf).2, fun x hx => .inr (.inr ⟨f, hf, hx.symm⟩)⟩) hlen h0
end

section
open Go.RowKit Go.Shelf

/-- the marks of the ranges that are over -/
def mark (D : Nat) : Deferred := { target := .collected D, args := #[] }
/-- each frame that is told has as many bytes as the rule says -/
theorem stX_D (r : Rx) (s : Mx) (f : Fa) (h : f ∈ (stX r s).2) : f.2.2.2.length = r.L := by
  unfold stX at h
  by_cases h0 : s.mode = 0
  · rw [if_pos h0] at h; cases h
  · rw [if_neg h0] at h
    by_cases h1 : s.mode = 1
    · rw [if_pos h1] at h
      unfold gaX at h
      by_cases h8 : (s.tk - s.p) % 8 ≠ 0
      · rw [if_pos h8] at h; cases h
      · rw [if_neg h8] at h
        by_cases hf : s.da.length + 1 = r.L
        · rw [if_pos hf] at h
          have e := List.mem_singleton.1 h
          subst e
          show (scrL (tuD s.tu (s.da ++ [_]))).length = _
          rw [scrL_len, tuD_len, List.length_append]; exact hf
        · rw [if_neg hf] at h; cases h
    · rw [if_neg h1] at h; cases h
theorem tkX_D (r : Rx) (s : Mx) (B : List Nat) (n : Nat) : ∀ f, f ∈ (tkX r s B n).2 → f.2.2.2.length = r.L := by
  induction n with
  | zero => intro f hf; cases hf
  | succ n ih =>
    intro f hf
    rcases List.mem_append.1 hf with h | h
    · exact ih f h
    · exact stX_D r _ f h
end

section
/-- the number of the first region of a piece of code (0: none; n + 1: region n) -/
def fstR : Code → Nat
  | .region id _ _ => id + 1
  | .seq a _ => fstR a
  | .block _ b => fstR b
  | .loop b => fstR b
  | _ => 0
/-- the piece of code that begins with region n, as long as can be -/
def tailR (n : Nat) : Code → Code
  | .seq a b => if fstR a = n + 1 then .seq a b else match tailR n a with
    | .skip => tailR n b
    | c => c
  | .cond _ t e => match tailR n t with
    | .skip => tailR n e
    | c => c
  | .block _ b => tailR n b
  | .loop b => tailR n b
  | .region id o d => if id = n then .region id o d else .skip
  | _ => .skip
end
end Go.Proofs.Ythdjpbfknbafgaa
