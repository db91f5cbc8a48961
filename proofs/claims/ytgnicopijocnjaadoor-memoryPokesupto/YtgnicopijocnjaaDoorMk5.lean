import Derived.Laws.EntriesVeiled
import Derived.Test.YtgnicopijocnjaaDoorMk4
namespace Go.Proofs.YtgnicopijocnjaaDoor
open Go.RowKit
set_option maxRecDepth 100000
set_option linter.unusedVariables false
set_option linter.unusedSimpArgs false

section
open Go.RowKit Go.Shelf

/-- What an iterator does for whoever ranges over it, where what it hands over is told with the world in which it is handed over (E). -/
def SeqE {α : Type} (F : Fence) (n : Nat) (P : Program) (g : Nat) (lb : Array Value) (encs : α → Array Value) (E : α → World → Prop) (Kp : World → World → Prop) (S Sp : List α → Prop) (N : Nat) (w : World) : Prop :=
  ∀ (l : Nat) (J Jx : List α → World → Prop) (W : World), Below w.heap.size w W → AbidesFrom W.heap.size J → AbidesFrom W.heap.size Jx →
    (∀ pre x W1, J pre W1 → E x W1 → pre.length < N → YieldAt F (n - 1) P l (encs x) W1 fun e W' =>
      (e = .returned (.bool true) ∧ J (pre ++ [x]) W' ∧ Kp W1 W') ∨ (e = .returned (.bool false) ∧ Jx (pre ++ [x]) W')) →
    J [] W →
    CallsIn F n P g (#[.func (.yield l) #[] #[]] ++ lb) W fun e W' => (∃ v, e = .returned v) ∧ ((∃ xs, S xs ∧ J xs W') ∨ (∃ pre, Sp pre ∧ Jx pre W'))
/-- a round's book-keeping behind its body -/
theorem round_ends {P : Program} {b : Nat} {rc : LoopState → Option Code → Loop} {W W3 : World} {B : Nat} (hs : ∀ s p s' p', { rc s p with state := s', pending := p' } = rc s' p') (hl : W.heap[b + 1]? = some (.loop (rc .ready none))) (hk : W.heap[b]? = some (.deferred (some [])))
    (hB : B ≤ b) (hk3 : KeepsFrom B (W.putObj (b + 1) (.loop { rc .ready none with state := .busy })) W3) (jump : Option Code) :
    (Instr.endRound (b + 1) jump).run P W3 = .ok (.bool jump.isNone) (W3.putObj (b + 1) (.loop (rc (if jump.isNone then .ready else .done) jump))) ∧ W3.heap[b + 1]? = some (.loop { rc .ready none with state := .busy }) ∧
      (W3.putObj (b + 1) (.loop (rc (if jump.isNone then .ready else .done) jump))).heap[b + 1]? = some (.loop (rc (if jump.isNone then .ready else .done) jump)) ∧ (W3.putObj (b + 1) (.loop (rc (if jump.isNone then .ready else .done) jump))).heap[b]? = some (.deferred (some [])) := by
  have hlt : b + 1 < W.heap.size := (Array.getElem?_eq_some_iff.1 hl).1
  have l3 := hk3.same (b + 1) _ (by omega) (World.putObj_heap_same hlt) rfl
  have k3 := hk3.same b _ hB ((World.putObj_heap_other (by omega)).trans hk) rfl
  have e := run_endRound (P := P) jump l3
  refine ⟨?_, l3, World.putObj_heap_same (Array.getElem?_eq_some_iff.1 l3).1, (World.putObj_heap_other (by omega)).trans k3⟩
  rw [e]
  congr 2
  simp [hs]
set_option maxHeartbeats 1000000 in
/-- A range over a function whose loop variable is boxed, where the round knows of what it is handed what the iterator tells (E). -/
theorem range_E {α : Type} {F : Fence} {n : Nat} {P : Program} {gop : Operand} {ps : Array Tmp} {assign body : Code} {Q : Exit → Act → World → Prop} {a : Act} {w : World}
    (hro : F.round = none) (h1 : 1 ≤ n) {gf : Nat} {lb : Array Value} (hg : a.eval gop = .func (.func gf) #[] lb) (hFg : F.fn gf) (eg : ∀ args w, (callFunc gf args).run P w = .ok (.enter gf args) w)
    {encs : α → Array Value} {E : α → World → Prop} {Kp : World → World → Prop} {S Sp : List α → Prop} {N : Nat} {w0 : World} (hseq : SeqE F (n - 1) P gf lb encs E Kp S Sp N w0)
    (hKt : ∀ {A B C : World}, Kp A B → Kp B C → Kp A C) (hKb : ∀ (W : World) (l : Nat) (o o' : Obj), w.heap.size ≤ l → W.heap[l]? = some o → o.isCells = false → o.isWalk = false → Kp W (W.putObj l o')) (hb0 : Below w0.heap.size w0 w) (hps : ∀ x, (encs x).size = ps.size)
    (I : List α → World → Prop) (Ix : Code → List α → World → Prop) (hI : OwnFrom w.heap.size I) (hIx : ∀ c, OwnFrom w.heap.size (Ix c)) (h0 : I [] w) (Ax : α → Act → World → Prop) (hAx : ∀ x a', OwnFrom w.heap.size (fun (_ : Unit) W => Ax x a' W))
    (hassign : ∀ (l : Nat) (pre : List α) (x : α) (W : World) (K : Act → World → Prop), I pre W → E x W → (∀ a' W', KeepsFrom w.heap.size W W' → Kp W W' → I pre W' → Ax x a' W' → K a' W') →
      assign.wpIn (F.inRound l) (n - 1 - 1) P (Exit.then K (fun _ _ _ => False)) { tmps := (ps.zip (encs x)).foldl (fun t (p, v) => t.setIfInBounds p v) a.tmps, defers := [] } W)
    (hbody : ∀ (l : Nat) (pre : List α) (x : α) (a' : Act) (W : World), I pre W → Ax x a' W → pre.length < N → body.wpIn (F.inRound l) (n - 1 - 1) P (ownPostG w.heap.size Kp I Ix (pre ++ [x]) W) a' W)
    (hdone : ∀ (D : Nat) (xs : List α) (W : World), w.heap.size ≤ D → S xs → I xs W → W.heap[D]? = some (.deferred (some [])) → Q .normal { a with defers := { target := .collected D, args := #[] } :: a.defers } W)
    (hstop : ∀ (D : Nat) (c : Code) (pre : List α) (W : World), w.heap.size ≤ D → Sp pre → Ix c pre W → W.heap[D]? = some (.deferred (some [])) → c.wpIn F n P Q { a with defers := { target := .collected D, args := #[] } :: a.defers } W) :
    (Code.rangeFunc gop ps assign body).wpIn F n P Q a w := by
  refine wpIn_rangeFunc ?_
  intro fn hfn
  rw [hro]
  obtain ⟨rc, hrc⟩ : ∃ rc : LoopState → Option Code → Loop, rc = fun st pe => { state := st, pending := pe, fn, tmps := a.tmps, params := ps, assign, body, defers := w.heap.size } := ⟨_, rfl⟩
  have hset : ∀ s p s' p', { rc s p with state := s', pending := p' } = rc s' p' := fun s p s' p' => by rw [hrc]
  have hW := World.alloc_heap_new (w.alloc (.deferred (some []))) (.loop (rc .ready none))
  rw [World.size_alloc] at hW
  have hD := (Below.heap_alloc (w.alloc (.deferred (some []))) (.loop (rc .ready none)) w.heap.size (by simp)).trans (World.alloc_heap_new w (.deferred (some [])))
  have hI1 := hI.alloc (.loop (rc .ready none)) (hI.alloc (.deferred (some [])) h0)
  have hb1 : Below w0.heap.size w0 ((w.alloc (.deferred (some []))).alloc (.loop (rc .ready none))) := hb0.trans ((((Below.refl _ w).alloc (Nat.le_refl _) _).alloc (by simp) _).mono hb0.size)
  have hs1 : w.heap.size + 2 = ((w.alloc (.deferred (some []))).alloc (.loop (rc .ready none))).heap.size := by simp
  refine ⟨w.heap.size + 1, [{ target := .collected w.heap.size, args := #[] }], (w.alloc (.deferred (some []))).alloc (.loop (rc .ready none)), { target := .fn (.func gf) lb, args := #[.func (.yield (w.heap.size + 1)) #[] #[]] }, (w.alloc (.deferred (some []))).alloc (.loop (rc .ready none)), gf,
    #[.func (.yield (w.heap.size + 1)) #[] #[]] ++ lb, (w.alloc (.deferred (some []))).alloc (.loop (rc .ready none)), ?_, ?_, ?_, ?_, fun _ => h1, ?_⟩
  · rw [hrc]; exact run_enterLoop_outer _ _ _ _ _
  · simp only [resolve, hg]
    simp [go_sem]
  · intro f' hf'; simp [Target.leads] at hf'; subst hf'; exact hFg
  · simp [invoke, go_sem, eg]
  generalize (w.alloc (.deferred (some []))).alloc (.loop (rc .ready none)) = W1 at *
  have walk : ∀ {A : World} {row : Option Nat}, (∀ r, row = some r → W1.heap.size ≤ r ∧ ∃ o : Obj, A.heap[r]? = some o ∧ o.isWalk = true) → ∀ r, row = some r → w.heap.size ≤ r ∧ ∃ o : Obj, A.heap[r]? = some o ∧ o.isCells = false := fun hr r e => by
    obtain ⟨hB, o, ho, hw⟩ := hr r e
    exact ⟨by omega, o, ho, Obj.not_cells_of_walk hw⟩
  refine (hseq (w.heap.size + 1) (fun pre W => I pre W ∧ W.heap[w.heap.size + 1]? = some (.loop (rc .ready none)) ∧ W.heap[w.heap.size]? = some (.deferred (some [])))
    (fun pre W => ∃ c, Ix c pre W ∧ W.heap[w.heap.size + 1]? = some (.loop (rc .done (some c))) ∧ W.heap[w.heap.size]? = some (.deferred (some []))) W1 hb1
    (fun s A B row hs hg' hr => ⟨hI s A B row hs.1 hg' (walk hr), (grownBy_keeps hg' (fun r e => (hr r e).2) hs.2.1 rfl).trans hs.2.1, (grownBy_keeps hg' (fun r e => (hr r e).2) hs.2.2 rfl).trans hs.2.2⟩)
    (fun s A B row ⟨c, hc, hl, hk⟩ hg' hr => ⟨c, hIx c s A B row hc hg' (walk hr), (grownBy_keeps hg' (fun r e => (hr r e).2) hl rfl).trans hl, (grownBy_keeps hg' (fun r e => (hr r e).2) hk rfl).trans hk⟩)
    ?_ ⟨hI1, hW, hD⟩).mono ?_
  · rintro pre x Wb ⟨hi, hl, hk⟩ hE hlen
    have hy := run_yield (P := P) (args := encs x) hl (by rw [hrc]; exact hps x)
    rw [hrc] at hy
    refine ⟨fn, _, assign, body, hy, roundIn_of_wpIn hfn (hassign _ pre x Wb _ hi hE ?_)⟩
    intro a' W hkf hkp hia hax
    have hl' := hkf.same _ _ (by omega) hl rfl
    have hk' := hkf.same _ _ (Nat.le_refl _) hk rfl
    refine ⟨_, run_beginRound hl' (by rw [hrc]), ?_⟩
    have hbusy : Kp W (W.putObj (w.heap.size + 1) (.loop { rc .ready none with state := .busy })) := hKb _ _ _ _ (by omega) hl' rfl rfl
    refine wpIn_mono (hbody _ pre x a' _ (hI.putObj _ hia (by omega) hl' rfl) ((hAx x a').putObj (s := ()) _ hax (by omega) hl' rfl) hlen) ?_
    have fin := fun (j : Option Code) (W3 : World) hk3 => round_ends (P := P) (B := w.heap.size) hset hl' hk' (Nat.le_refl _) (W3 := W3) hk3 j
    rintro e a3 W3 hp
    cases e with
    | normal =>
      obtain ⟨hk3, hkp3, hi3⟩ := hp
      obtain ⟨hr, hl3, hl4, hk4⟩ := fin none W3 hk3
      exact ⟨_, _, hr, .inl ⟨rfl, ⟨hI.putObj _ hi3 (by omega) hl3 rfl, hl4, hk4⟩, hKt hkp (hKt (hKt hbusy hkp3) (hKb _ _ _ _ (by omega) hl3 rfl rfl))⟩⟩
    | ret =>
      obtain ⟨hk3, hi3⟩ := hp
      obtain ⟨hr, hl3, hl4, hk4⟩ := fin (some .ret) W3 hk3
      exact ⟨_, _, hr, .inr ⟨rfl, .ret, (hIx _).putObj _ hi3 (by omega) hl3 rfl, hl4, hk4⟩⟩
    | exit id =>
      obtain ⟨hk3, hi3⟩ := hp
      obtain ⟨hr, hl3, hl4, hk4⟩ := fin (some (.exit id)) W3 hk3
      exact ⟨_, _, hr, .inr ⟨rfl, .exit id, (hIx _).putObj _ hi3 (by omega) hl3 rfl, hl4, hk4⟩⟩
    | goto t =>
      obtain ⟨hk3, hi3⟩ := hp
      obtain ⟨hr, hl3, hl4, hk4⟩ := fin (some (.goto t)) W3 hk3
      exact ⟨_, _, hr, .inr ⟨rfl, .goto t, (hIx _).putObj _ hi3 (by omega) hl3 rfl, hl4, hk4⟩⟩
    | panic ch => exact hp.elim
    | outgrown => exact hp.elim
  · rintro e W2 ⟨⟨v, rfl⟩, (⟨xs, hS, hi, hl, hk⟩ | ⟨pre, hSp, c, hi, hl, hk⟩)⟩
    · exact ⟨none, _, by have := run_endLoop (P := P) hl (by rw [hrc]; simp); rw [hrc] at this; exact this, hdone _ xs _ (Nat.le_refl _) hS (hI.putObj _ hi (by omega) hl rfl) ((World.putObj_heap_other (by omega)).trans hk)⟩
    · exact ⟨some c, _, by have := run_endLoop (P := P) hl (by rw [hrc]; simp); rw [hrc] at this; exact this, hstop _ c pre _ (Nat.le_refl _) hSp ((hIx c).putObj _ hi (by omega) hl rfl) ((World.putObj_heap_other (by omega)).trans hk)⟩
end

section
open Go.RowKit Go.Shelf
attribute [local go_sem] Oper.semAt_some

/-- the blocks of p lie as they lay, and none is gone -/
def KeepS (p : Nat → Prop) (W W' : World) : Prop := KeepB p W W' ∧ W.heap.size ≤ W'.heap.size
theorem KeepS.trans {p : Nat → Prop} {A B C : World} (h : KeepS p A B) (k : KeepS p B C) : KeepS p A C := ⟨h.1.trans k.1, Nat.le_trans h.2 k.2⟩
theorem KeepS.put {p : Nat → Prop} {w : World} (hp : ∀ k, p k → k < w.heap.size) (W : World) (l : Nat) (o o' : Obj) (hl : w.heap.size ≤ l) (h1 : W.heap[l]? = some o) (h2 : o.isCells = false) (h3 : o.isWalk = false) : KeepS p W (W.putObj l o') := ⟨KeepB.put hp W l o o' hl h1 h2 h3, by simp [World.putObj]⟩
/-- the blocks in which what is told lies -/
def FdP (fb : Nat) (v : Value) (fs : List Fv) (k : Nat) : Prop := k = fb ∨ some k = v.ownBlock ∨ ∃ f, f ∈ fs ∧ some k = (Value.slice f.a f.n f.n).ownBlock
end

section
open Go.RowKit Go.Shelf

/-- the marks of the ranges that are over -/
def mark (D : Nat) : Deferred := { target := .collected D, args := #[] }
end

section
open Go.RowKit Go.Shelf
attribute [local go_sem] Oper.semAt_some

/-- the words that are not lost, with their places -/
def alL (C : List Nat) : Nat → List (Nat × Nat)
  | 0 => []
  | k + 1 => if wrW (nth C k) = 2 then alL C k else alL C k ++ [(k, gaW (riW (nth C k)) 39)]
theorem alL_len (C : List Nat) (k : Nat) : (alL C k).length ≤ k := by
  induction k with
  | zero => exact Nat.le_refl _
  | succ k ih =>
    rw [alL]
    split
    · omega
    · rw [List.length_append, List.length_singleton]; omega
def memB (gm gc gb k : Nat) : Prop := k = gm ∨ k = gc ∨ k = gb
def encPM (y : Nat × Nat) : Array Value := #[.int .i64 (y.1 : Int), .int .i64 (y.2 : Int)]
set_option maxHeartbeats 2000000 in
theorem all_in (m l gm gc nx gb : Nat) (C : List Nat) (w : World) (hm : 1 ≤ m) (hM : Mem w gm gc nx C) (hb : BxS w gb 38 #[.pointer (some ⟨gm, 0, none⟩)]) (J Jx : List (Nat × Nat) → World → Prop) (W : World) (hW : w.grownBy W none)
    (hJ : AbidesFrom W.heap.size J)
    (hY : ∀ pre x W1, J pre W1 → True → pre.length < C.length → YieldAt Fence.wide (m - 1) Tryd.prog l (encPM x) W1 fun e W' =>
      (e = .returned (.bool true) ∧ J (pre ++ [x]) W' ∧ KeepS (memB gm gc gb) W1 W') ∨ (e = .returned (.bool false) ∧ Jx (pre ++ [x]) W'))
    (h0 : J [] W) :
    CallsIn Fence.wide m Tryd.prog 24 #[.func (.yield l) #[] #[], .pointer (some ⟨gb, 0, none⟩)] W fun e W' => (∃ v, e = .returned v) ∧
      ((∃ ys : List (Nat × Nat), ys = alL C C.length ∧ J ys W') ∨ (∃ pre, True ∧ Jx pre W')) := by
  have hMW := hM.grown hW (by simp) (by simp)
  have hbW := hb.keep hW (by simp)
  have x0 : W.cell? ⟨gb, 0, none⟩ = some (.pointer (some ⟨gm, 0, none⟩)) := hbW.cell 0 (by simp)
  have x1 : W.cell? ⟨gm, 0, none⟩ = some (.slice (some ⟨gc, 0, none⟩) C.length C.length) := hMW.box.cell 0 (by simp)
  have hmo := hM.most
  clear hM hb
  refine callsIn_of_wp Tryd.func24 rfl trivial ?_ rfl
  simp only [Tryd.ntmps24, List.size_toArray, List.length_cons, List.length_nil, Nat.reduceAdd, Nat.reduceSub, Array.replicate_succ, Array.replicate_zero, List.push_toArray, List.append_toArray, List.nil_append, List.cons_append]
  gi_wp2
  gi_loopw [12] (fun i wr => ∃ (k : Nat) (pre : List (Nat × Nat)), k ≤ C.length ∧ i = .int .i64 k ∧ Hid (pre = alL C k) ∧ J pre wr ∧ KeepS (memB gm gc gb) W wr) (fun i _ => C.length - (intOf i).toNat)
  case atStart => exact ⟨0, [], Nat.zero_le _, rfl, rfl, h0, KeepB.refl _ _, Nat.le_refl _⟩
  case round =>
    obtain ⟨k, pre, hk, rfl, HP, hJs, hkp⟩ := hrel
    have hpl : pre.length ≤ k := by rw [HP.out]; exact alL_len C k
    by_cases hlt : k < C.length
    · have y0 := (hkp.1.cell (a := ⟨gb, 0, none⟩) (.inr (.inr rfl))).trans x0
      have y1 := (hkp.1.cell (a := ⟨gm, 0, none⟩) (.inl rfl)).trans x1
      have y2 : wr.cell? ⟨gc, k, none⟩ = some (.int .i64 (nth C k : Nat)) := (hkp.1.cell (a := ⟨gc, k, none⟩) (.inr (.inl rfl))).trans (hMW.row.cell k hlt)
      have hxc := hMW.code k hlt
      have hMe := fun wz => mend_any (nth C k : Nat) wz
      obtain ⟨m1, m2, m3⟩ := md_ok (z := (nth C k : Nat)) ⟨by omega, by omega⟩
      rw [m1, m2, m3, Int.toNat_natCast] at hMe
      have HA : Hid (alL C (k + 1) = if wrW (nth C k) = 2 then alL C k else alL C k ++ [(k, gaW (riW (nth C k)) 39)]) := rfl
      have hlt' : (k : Int) < (C.length : Int) := by omega
      clear m1 m2 m3
      generalize (wrW (nth C k) == 1) = bb at hMe
      by_cases hw : wrW (nth C k) = 2
      · have e : ((riE (nth C k) : Nat) : Int) = 18 := by unfold riE; rw [if_pos hw]; rfl
        rw [e] at hMe
        have HB : Hid (alL C (k + 1) = alL C k) := HA.out.trans (if_pos hw)
        clear e hw
        generalize gaW (riW (nth C k)) 39 = y at hMe
        refine wpIn_wide.2 ?_
        refine wp_seq_k fun K1 hK1 => ?_
        have HK1 : Hid _ := hK1
        clear hK1
        go_wp2
        (try simp only [Exit.inBlock, Exit.then])
        refine HK1.out _ _ ?_
        clear HK1
        refine wp_seq_k fun K2 hK2 => ?_
        have HK2 : Hid _ := hK2
        clear hK2
        go_wp2
        (try simp only [Exit.inBlock, Exit.then])
        refine HK2.out _ _ ?_
        clear HK2
        refine wp_seq_k fun K3 hK3 => ?_
        have HK3 : Hid _ := hK3
        clear hK3
        refine wp_block ?_
        refine wp_seq_k fun K4 hK4 => ?_
        have HK4 : Hid _ := hK4
        clear hK4
        go_wp2
        (try simp only [Exit.inBlock, Exit.then])
        refine HK4.out _ _ ?_
        clear HK4
        refine wp_seq_k fun K5 hK5 => ?_
        have HK5 : Hid _ := hK5
        clear hK5
        go_wp2_with (go_at_call 25; refine (hMe _).mono ?_; rintro e w2 ⟨rfl, hww⟩; have hww := hww.symm; subst hww)
        (try simp only [Exit.inBlock, Exit.then])
        refine HK5.out _ _ ?_
        clear HK5
        go_wp2
        (try simp only [Exit.inBlock, Exit.then])
        refine HK3.out _ _ ?_
        clear HK3
        go_wp2
        go_roundw
        case rel => exact ⟨k + 1, pre, by omega, by go_num, by rw [HB.out]; exact HP, hJs, hkp⟩
        case measure => simp [intOf]; omega
      · have e : ((riE (nth C k) : Nat) : Int) = 0 := by unfold riE; rw [if_neg hw]; rfl
        rw [e] at hMe
        have HB : Hid (alL C (k + 1) = alL C k ++ [(k, gaW (riW (nth C k)) 39)]) := HA.out.trans (if_neg hw)
        clear e hw HA
        generalize gaW (riW (nth C k)) 39 = y at hMe HB
        obtain ⟨fn, tmps, assign, body, hy, hR⟩ := hY pre (k, y) wr hJs trivial (by omega)
        unfold encPM at hy
        dsimp only at hy
        refine wpIn_wide.2 ?_
        refine wp_seq_k fun K1 hK1 => ?_
        have HK1 : Hid _ := hK1
        clear hK1
        go_wp2
        (try simp only [Exit.inBlock, Exit.then])
        refine HK1.out _ _ ?_
        clear HK1
        refine wp_seq_k fun K2 hK2 => ?_
        have HK2 : Hid _ := hK2
        clear hK2
        go_wp2
        (try simp only [Exit.inBlock, Exit.then])
        refine HK2.out _ _ ?_
        clear HK2
        refine wp_seq_k fun K3 hK3 => ?_
        have HK3 : Hid _ := hK3
        clear hK3
        refine wp_block ?_
        refine wp_seq_k fun K4 hK4 => ?_
        have HK4 : Hid _ := hK4
        clear hK4
        go_wp2
        (try simp only [Exit.inBlock, Exit.then])
        refine HK4.out _ _ ?_
        clear HK4
        refine wp_seq_k fun K5 hK5 => ?_
        have HK5 : Hid _ := hK5
        clear hK5
        go_wp2_with (go_at_call 25; refine (hMe _).mono ?_; rintro e w2 ⟨rfl, hww⟩; have hww := hww.symm; subst hww)
        (try simp only [Exit.inBlock, Exit.then])
        refine HK5.out _ _ ?_
        clear HK5
        refine (wpIn_wide (n := m)).1 ?_
        gi_wp2
        refine hR.mono ?_
        rintro e W3 (⟨rfl, hJ4, hk4⟩ | ⟨rfl, hJx4⟩)
        · gi_wp2
          (try simp only [Exit.inBlock, Exit.then])
          refine HK3.out _ _ ?_
          go_wp2
          go_roundw
          case rel => exact ⟨k + 1, _, by omega, by go_num, (by show _ = _; rw [HB.out, HP.out]), hJ4, hkp.trans hk4⟩
          case measure => simp [intOf]; omega
        · gi_wp2
          refine bodyPost_ret (results_none rfl _ _ _) rfl ?_
          exact ⟨⟨_, rfl⟩, .inr ⟨_, trivial, hJx4⟩⟩
    · obtain rfl : k = C.length := by omega
      gi_wp2
      go_end0
      exact ⟨⟨_, rfl⟩, .inl ⟨pre, HP.out, hJs⟩⟩
theorem all_stops (m gm gc nx gb : Nat) (C : List Nat) (w : World) (hm : 1 ≤ m) (hM : Mem w gm gc nx C) (hb : BxS w gb 38 #[.pointer (some ⟨gm, 0, none⟩)]) :
    SeqE Fence.wide m Tryd.prog 24 #[.pointer (some ⟨gb, 0, none⟩)] encPM (fun _ _ => True) (KeepS (memB gm gc gb)) (fun ys => ys = alL C C.length) (fun _ => True) C.length w := by
  intro l J Jx W hW hJ _ hY h0
  exact all_in m l gm gc nx gb C w hm hM hb J Jx W ⟨hW.os, hW.tape, hW.output, hW.size, fun k hk _ => hW.block k hk⟩ hJ hY h0
end
end Go.Proofs.YtgnicopijocnjaaDoor
