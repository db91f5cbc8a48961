import Derived.Deep.CutBlock
import Derived.Test.YtnjdbbjhplebhaaPd9
import Derived.Test.YtnjdbbjhplebhaaRows
import Derived.OpenShut
import Derived.SizedLaws
import Derived.Deep.Slices
import Derived.Test.YtnjdbbjhplebhaaPd1
import Derived.Laws.BitsAllLaws
namespace Go.Proofs.Ytnjdbbjhplebhaa
open Go.RowKit
set_option maxRecDepth 100000
set_option linter.unusedVariables false
set_option linter.unusedSimpArgs false

section
theorem run_stop (J : Nat → Jb) (n : Nat) (r : Nat → Nat) (e : Nat) (h : ∀ t, e ≤ t → r t = 0) : ∀ d, runJ J n r (e + d) = runJ J n r e
  | 0 => rfl
  | d + 1 => by
    show sendJ J n (e + d) (r (e + d)) (r (e + d)) (runJ J n r (e + d)).1 (runJ J n r (e + d)).2 = _
    rw [h (e + d) (by omega), sendJ_zero]
    exact run_stop J n r e h d
theorem rt_end (W : Nat → Jb) (n t : Nat) (h : enW W n ≤ t) : rtW W n t = 0 := by
  unfold rtW
  rw [sumF_eq _ (fun _ => 0) n (fun i hi => if_neg (fun hc => by have := enW_le W n i hi; omega)), sumF_zero]
/-- when which job is gone -/
def goneN (W J : Nat → Jb) (wn jn : Nat) : Nat → Int := (runJ J jn (rtW W wn) 20000).2
theorem gone_is (W J : Nat → Jb) (wn jn : Nat) (h : enW W wn ≤ 20000) : (runJ J jn (rtW W wn) (enW W wn)).2 = goneN W J wn jn := by
  have := run_stop J jn (rtW W wn) (enW W wn) (fun t ht => rt_end W wn t ht) (20000 - enW W wn)
  rw [show enW W wn + (20000 - enW W wn) = 20000 by omega] at this
  unfold goneN
  rw [this]
/-- are all gone in time? -/
def fitB (W J : Nat → Jb) (wn jn : Nat) : Bool := (List.range jn).all fun i => !(decide (goneN W J wn jn i = -1)) && decide (goneN W J wn jn i ≤ ((J i).by' : Int))
theorem fit_iff (W J : Nat → Jb) (wn jn : Nat) (hJ : ∀ i, i < jn → (J i).fr ≤ (J i).by' ∧ (J i).by' ≤ 20000) : fitB W J wn jn = true ↔ ∀ i, i < jn → lf J jn (rtW W wn) (J i).by' i = 0 := by
  unfold fitB
  rw [List.all_eq_true]
  constructor
  · intro h i hi
    have := h i (List.mem_range.2 hi)
    rw [Bool.and_eq_true, Bool.not_eq_true', decide_eq_false_iff_not, decide_eq_true_iff] at this
    exact (in_time J jn (rtW W wn) i 20000 (hJ i hi).1 (hJ i hi).2).1 this
  · intro h i hi
    have hi := List.mem_range.1 hi
    rw [Bool.and_eq_true, Bool.not_eq_true', decide_eq_false_iff_not, decide_eq_true_iff]
    exact (in_time J jn (rtW W wn) i 20000 (hJ i hi).1 (hJ i hi).2).2 (h i hi)
/-- windows and jobs that may be -/
structure MayS (W J : Nat → Jb) (wn jn : Nat) : Prop where
  hw : wn ≤ 200
  hj : jn ≤ 100
  w : ∀ i, i < wn → (W i).fr ≤ (W i).by' ∧ (W i).by' ≤ 20000 ∧ (W i).by8 ≤ 1000000
  j : ∀ i, (J i).fr ≤ (J i).by' ∧ (J i).by' ≤ 20000 ∧ (J i).by8 ≤ 1000000
theorem t3B_J {x : Jb} (h : x.fr ≤ x.by' ∧ x.by' ≤ 20000 ∧ x.by8 ≤ 1000000) : t3B (tJ x) = true := by
  rw [t3B_iff]
  unfold tJ
  dsimp only
  omega
theorem MayS.en {W J : Nat → Jb} {wn jn : Nat} (h : MayS W J wn jn) : enW W wn ≤ 20000 := enW_ub W 20000 wn (fun i hi => (h.w i hi).2.1)

set_option maxHeartbeats 8000000 in
theorem share_ok (w : World) (wa ja : Option Addr) (wn wc jn jc : Nat) (W J : Nat → Jb) (hW : RdT w wa wn wc (fun i => tJ (W i))) (hJ : RdT w ja jn jc (fun i => tJ (J i))) (hm : MayS W J wn jn) (hS : SortsD jn) :
    Calls Try.prog 6 #[.slice wa wn wc, .slice ja jn jc] w fun e w' => ∃ ga, e = .returned (.tuple #[.slice (some ⟨ga, 0, none⟩) jn jn, .int .i64 0]) ∧ InB w' ga jn (goneN W J wn jn) ∧ w.heap.size ≤ ga ∧ w.grownBy w' none := by
  have W0 := (wrongShare_any w wa ja wn wc jn jc _ _ hW hJ).mono (R' := fun e w' => e = .returned (.int .i64 0) ∧ w.grownBy w' none) (fun e w' h => by
    obtain ⟨z, h1, h2, h3⟩ := h
    have hno : ¬ (200 < wn ∨ 100 < jn) := by have := hm.hw; have := hm.hj; omega
    have hz := h2.2.2 hno (fun h => by
      rcases h with ⟨i, hi, hb⟩ | ⟨i, hi, hb⟩
      · rw [t3B_J (hm.w i hi)] at hb; cases hb
      · rw [t3B_J (hm.j i)] at hb; cases hb)
    rw [hz] at h1
    exact ⟨h1, h3⟩)
  have R0 : ∀ w1, w.grownBy w1 none → _ := fun w1 g => rooms_any w1 wa wn wc W (hW.keep g) hm.w hm.hw
  have HM : Hid _ := hm
  have HJ : Hid _ := hJ
  have HSS : Hid _ := hS
  have HR0 : Hid _ := R0
  clear hW hJ hm hS R0
  go_enter Try.func6, Try.ntmps6
  refine wp_seq_k fun K0 hK0 => ?_
  have HK0 : Hid _ := hK0
  clear hK0
  go_wp2
  refine HK0.out _ _ ?_
  clear HK0
  refine wp_seq_k fun K1 hK1 => ?_
  have HK1 : Hid _ := hK1
  clear hK1
  go_wp2_with (go_at_call 14; refine W0.mono ?_; rintro e w1 ⟨rfl, g1⟩)
  have R1 := HR0.out w1 g1
  have HG1 : Hid _ := g1
  clear g1
  refine HK1.out _ _ ?_
  clear HK1
  refine wp_seq_k fun K2 hK2 => ?_
  have HK2 : Hid _ := hK2
  clear hK2
  have s1 : True := trivial
  have hG0 : ∀ w2 ga, w1.grownBy w2 none → InB w2 ga (enW W wn + 1) (fun t => (rtW W wn t : Int)) → _ := fun w2 ga g2 hi => whenGone_any w2 ga (enW W wn) (enW W wn + 1) (enW W wn + 1) jn jc (rtW W wn) ja J hi (by omega) (by omega) HM.out.en (fun t => Nat.le_trans (rt_bd W t wn (fun i hi => (HM.out.w i hi).2.2)) (by have := HM.out.hw; omega)) (HJ.out.keep (grown_trans HG1.out g2)) HM.out.hj (fun i => (HM.out.j i).2.2) (fun i => Nat.le_trans (HM.out.j i).1 (HM.out.j i).2.1) HSS.out
  have HG0 : Hid _ := hG0
  clear hG0
  go_wp2_with (first
    | (have _t := s1; clear s1; go_at_call 16; refine R1.mono ?_; rintro e w2 ⟨ga, rfl, hi2, hl2, g2⟩; have S0 := HG0.out w2 ga g2 hi2; have s2 : True := trivial)
    | (have _t := s2; clear s2; go_at_call 15; refine S0.mono ?_; rintro e w3 ⟨gb, rfl, hi3, hl3, g3⟩))
  refine HK2.out _ _ ?_
  clear HK2
  go_wp2
  (try simp only [Exit.inBlock, Exit.then])
  refine bodyPost_ret (results_tmp2 rfl _ _ _) rfl ?_
  refine ⟨gb, rfl, ?_, Nat.le_trans HG1.out.size (Nat.le_trans g2.size hl3), grown_trans HG1.out (grown_trans g2 g3)⟩
  rw [← gone_is W J wn jn HM.out.en]
  exact hi3
set_option maxHeartbeats 8000000 in
theorem fits_ok (w : World) (wa ja : Option Addr) (wn wc jn jc : Nat) (W J : Nat → Jb) (hW : RdT w wa wn wc (fun i => tJ (W i))) (hJ : RdT w ja jn jc (fun i => tJ (J i))) (hm : MayS W J wn jn) (hS : SortsD jn) :
    Calls Try.prog 8 #[.slice wa wn wc, .slice ja jn jc] w fun e w' => e = .returned (.tuple #[.bool (fitB W J wn jn), .int .i64 0]) ∧ w.grownBy w' none := by
  have S0 := share_ok w wa ja wn wc jn jc W J hW hJ hm hS
  have HJ : Hid _ := hJ
  have hj100 := hm.hj
  have HF : Hid (fitB W J wn jn = (List.range jn).all fun i => !(decide (goneN W J wn jn i = -1)) && decide (goneN W J wn jn i ≤ ((J i).by' : Int))) := (rfl : _ = _)
  generalize goneN W J wn jn = G at *
  generalize fitB W J wn jn = fb at *
  clear hW hJ hm hS
  go_enter Try.func8, Try.ntmps8
  refine wp_seq_k fun K0 hK0 => ?_
  have HK0 : Hid _ := hK0
  clear hK0
  go_wp2
  refine HK0.out _ _ ?_
  clear HK0
  refine wp_seq_k fun K1 hK1 => ?_
  have HK1 : Hid _ := hK1
  clear hK1
  go_wp2_with (go_at_call 6; refine S0.mono ?_; rintro e w1 ⟨ga, rfl, hi1, hl1, g1⟩)
  refine HK1.out _ _ ?_
  clear HK1
  refine wp_seq_k fun K2 hK2 => ?_
  have HK2 : Hid _ := hK2
  clear hK2
  go_wp2
  refine HK2.out _ _ ?_
  clear HK2
  refine wp_seq_k fun K3 hK3 => ?_
  have HK3 : Hid _ := hK3
  clear hK3
  go_wp2
  go_loopw [21] (fun v21 wr => ∃ k : Nat, k ≤ jn ∧ v21 = .int .i64 (k : Nat) ∧ Hid (∀ i, i < k → ¬ G i = -1 ∧ G i ≤ ((J i).by' : Int)) ∧ Hid (InB wr ga jn G) ∧ w.grownBy wr none) (fun v21 _ => jn - (intOf v21).toNat)
  case atStart => exact ⟨0, Nat.zero_le _, rfl, (fun i h => absurd h (by omega)), hi1, g1⟩
  case round =>
    obtain ⟨k, hk, rfl, hok, hik, hg⟩ := hrel
    by_cases hlt : k < jn
    · have lk : (k : Int) < (jn : Int) := by omega
      obtain ⟨b, off, ha, _, hr⟩ := (HJ.out.keep hg).at' (by omega)
      have hr := hr k hlt
      have c0 := hr 0 _ rfl
      have c1 := hr 1 _ rfl
      have c2 := hr 2 _ rfl
      simp only [Nat.add_zero, tJ] at c0 c1 c2
      subst ha
      obtain ⟨f, hf⟩ : ∃ f, f = (J k).fr := ⟨_, rfl⟩
      obtain ⟨t, ht⟩ : ∃ t, t = (J k).by' := ⟨_, rfl⟩
      obtain ⟨r0, hrr⟩ : ∃ r0, r0 = (J k).by8 := ⟨_, rfl⟩
      rw [← hf] at c0
      rw [← ht] at c1
      rw [← hrr] at c2
      have HT : Hid (t = (J k).by') := ht
      clear hf ht hrr hr hi1 g1 hl1
      have GA := World.grownBy_alloc wr (.cells #[.int .i64 (f : Nat), .int .i64 (t : Nat), .int .i64 (r0 : Nat)] 34) none
      have ba := BxS.new wr 34 #[.int .i64 (f : Nat), .int .i64 (t : Nat), .int .i64 (r0 : Nat)]
      have hia := InB.keep hik.out GA (by simp)
      have HGA : Hid (w.grownBy (wr.alloc (.cells #[.int .i64 (f : Nat), .int .i64 (t : Nat), .int .i64 (r0 : Nat)] 34)) none) := grown_trans hg GA
      have HKN : Hid (k < jn) := hlt
      go_upto_region 7 with fail
      generalize wr.heap.size = gx at *
      generalize wr.alloc (.cells #[.int .i64 (f : Nat), .int .i64 (t : Nat), .int .i64 (r0 : Nat)] 34) = wa' at *
      have x1 := BxS.cell ba 1 (by simp)
      simp at x1
      have y1 := InB.cell hia hlt
      have HIA : Hid (InB wa' ga jn G) := hia
      clear GA ba hia hg hlt hik
      obtain ⟨q, hq⟩ : ∃ q, q = G k := ⟨_, rfl⟩
      rw [← hq] at y1
      have HQ : Hid (q = G k) := hq
      clear hq
      by_cases h1 : q = -1
      · subst h1
        go_quiet (fail)
        go_wp2
        (try simp only [Exit.inBlock, Exit.then])
        refine bodyPost_ret (results_tmp2 rfl _ _ _) rfl ?_
        have e : fb = false := by
          rw [HF.out, List.all_eq_false]
          exact ⟨k, List.mem_range.2 HKN.out, by rw [← HQ.out]; simp⟩
        rw [e]
        exact ⟨rfl, grown_trans HGA.out (grown_drewN _ _ none)⟩
      · have h1b : (q == (-1 : Int)) = false := beq_eq_false_iff_ne.2 h1
        have H1 : Hid (¬ q = -1) := h1
        clear h1
        by_cases h2 : (t : Int) < q
        · go_quiet (fail)
          go_wp2
          (try simp only [Exit.inBlock, Exit.then])
          refine bodyPost_ret (results_tmp2 rfl _ _ _) rfl ?_
          have e : fb = false := by
            rw [HF.out, List.all_eq_false]
            refine ⟨k, List.mem_range.2 HKN.out, ?_⟩
            rw [← HQ.out, ← HT.out, decide_eq_false (by omega : ¬ q ≤ (t : Int))]
            simp
          rw [e]
          exact ⟨rfl, grown_trans HGA.out (grown_drewN _ _ none)⟩
        · go_quiet (fail)
          have GQ := grown_drewN wa' nq none
          generalize wa'.drewN nq = w9 at *
          go_wp2
          refine ⟨⟨k + 1, HKN.out, by go_num, fun i hi => ?_, InB.keep HIA.out GQ (by simp), grown_trans HGA.out GQ⟩, by have := HKN.out; simp [intOf] <;> omega⟩
          by_cases ei : i = k
          · rw [ei, ← HQ.out, ← HT.out]
            exact ⟨H1.out, by omega⟩
          · exact hok.out i (by omega)
    · obtain rfl : jn = k := by omega
      have lk : ¬ (jn : Int) < (jn : Int) := by omega
      have HG9 : Hid (w.grownBy wr none) := hg
      clear hg g1
      go_wp2
      (try simp only [Exit.inBlock, Exit.then])
      refine HK3.out _ _ ?_
      clear HK3
      go_wp2
      (try simp only [Exit.inBlock, Exit.then])
      refine bodyPost_ret (results_tmp2 rfl _ _ _) rfl ?_
      have e : fb = true := by
        rw [HF.out, List.all_eq_true]
        intro i hi
        obtain ⟨q1, q2⟩ := hok.out i (List.mem_range.1 hi)
        rw [decide_eq_false q1, decide_eq_true q2]
        rfl
      rw [e]
      exact ⟨rfl, HG9.out⟩
end

section
open Go.ChangeShapes Go.WideShapes

/-- a type's shape, as a reading goes through it: fields in a row (a struct, an array), slices, numbers; mt: what a reading tells of cells; n: how much is read -/
structure Sh where
  agg : Bool
  mt : World → Bool → List Value → Nat → Prop
def sumN (F : Nat → Nat) : Nat → Nat
  | 0 => 0
  | n + 1 => sumN F n + F n
def Sh.met (w : World) (full : Bool) (s : Sh) (cs : List Value) (n : Nat) : Prop := s.mt w full cs n
def Sh.bool : Sh := ⟨false, fun w full cs n => n = 1 ∧ ∃ b, cs = [.bool b]⟩
def Sh.int (k : IntKind) : Sh := ⟨false, fun w full cs n => n = 1 ∧ ∃ z, cs = [.int k z] ∧ (Lit.int k z).wf = true⟩
def Sh.str : Sh := ⟨false, fun w full cs n => ∃ s : ByteArray, cs = [.string s] ∧ n = s.size + 1 ∧ s.size ≤ maxLen ∧ (full = true → s.size ≤ reachBytes)⟩
def Sh.slice (c b : Nat) (e : Sh) : Sh := ⟨false, fun w full cs n => (n = 1 ∧ cs = [.slice none 0 0]) ∨
      ∃ (a : Addr) (len cap : Nat) (F : Nat → Nat) (C : Nat → List Value), cs = [.slice (some a) len cap] ∧ n = sumN F cap + 1 ∧ len ≤ cap ∧ cap ≤ maxLen ∧ (full = true → cap * b ≤ reachBytes) ∧
        ∀ i, i < cap → (C i).length = c ∧ (∀ j, j < c → w.cell? (a.add (i * c + j)) = (C i)[j]?) ∧ e.mt w full (C i) (F i)⟩
def Sh.fend : Sh := ⟨true, fun w full cs n => cs = [] ∧ n = 1⟩
def Sh.fcons (c : Nat) (s r : Sh) : Sh := ⟨true, fun w full cs n => ∃ n1 n2, n = n1 + n2 ∧ s.mt w full (cs.take c) n1 ∧ r.mt w full (cs.drop c) n2⟩
def Sh.rep (c : Nat) (s : Sh) : Nat → Sh
  | 0 => .fend
  | n + 1 => .fcons c s (Sh.rep c s n)
def fieldsOf (P : Program) (g : TypeId → Option Sh) (top : Nat) : Nat → List Field → Option Sh
  | off, [] => if off = top then some .fend else none
  | off, f :: r => if f.offset = off then (g f.type).bind fun s => (fieldsOf P g top (off + P.cellsOf f.type) r).map fun q => .fcons (P.cellsOf f.type) s q else none
def shapeOf (P : Program) : Nat → TypeId → Option Sh
  | 0, _ => none
  | f + 1, t => match P.underlying t with
    | some .bool => some .bool
    | some (.int k) => some (.int k)
    | some .string => some .str
    | some (.slice e) => (shapeOf P f e).map fun s => .slice (P.cellsOf e) (P.bytesOf e) s
    | some (.struct fs) => fieldsOf P (shapeOf P f) (P.cellsOf t) 0 fs.toList
    | some (.array n e) => if P.cellsOf t = n * P.cellsOf e then (shapeOf P f e).map fun s => Sh.rep (P.cellsOf e) s n else none
    | _ => none
section
variable {H : Type} {enc : TypeId × Value → H} {P : Program} {w : World} {full : Bool}
theorem bulkAll_append (l r : List (DataW H)) : Rows.uptoBulkAll (l ++ r) = Rows.uptoBulkAll l + Rows.uptoBulkAll r := by
  induction l with
  | nil => simp [Rows.uptoBulkAll]
  | cons d l ih => simp only [List.cons_append, Rows.uptoBulkAll, ih]; omega
theorem bulkAll_range (D : Nat → DataW H) (n : Nat) : Rows.uptoBulkAll ((List.range n).map D) = sumN (fun i => Rows.uptoBulk (D i)) n := by
  induction n with
  | zero => rfl
  | succ n ih => rw [List.range_succ, List.map_append, bulkAll_append, ih]; simp [sumN, Rows.uptoBulkAll]
theorem weights_all {e : TypeId} {n : Nat} {d : DataW H} (hn : n ∈ d.weights P e) : ∀ {l : List (DataW H)}, d ∈ l → n ∈ DataW.weightsAll P e l
  | [], h => by cases h
  | x :: l, h => by
    simp only [DataW.weightsAll, List.mem_append]
    rcases List.mem_cons.1 h with rfl | h
    · exact .inl hn
    · exact .inr (weights_all hn h)
theorem fields_met {g : TypeId → Option Sh} {cs : List Value} {m : Nat}
    (hg : ∀ t s, g t = some s → ∀ cs' d ps, DataW.trod enc P w 0 (fun _ => true) true m t cs' = some (d, ps) → (full = true → ∀ n ∈ d.weights P t, n ≤ reachBytes) → s.met w full cs' (Rows.uptoBulk d)) :
    ∀ (fl : List Field) (off : Nat) (s : Sh) (xs : List (DataW H × List MemPlace)), fieldsOf P g cs.length off fl = some s → xs.length = fl.length →
      (∀ (i : Nat) (f : Field), fl[i]? = some f → DataW.trod enc P w 0 (fun _ => true) true m f.type ((cs.drop f.offset).take (P.cellsOf f.type)) = xs[i]?) →
      (full = true → ∀ n ∈ DataW.weightsEach P (fl.map (·.type)) (xs.map (·.1)), n ≤ reachBytes) → s.met w full (cs.drop off) (Rows.uptoBulkAll (xs.map (·.1)) + 1)
  | [], off, s, xs, hs, hl, hx, hw => by
    unfold fieldsOf at hs
    split at hs
    · rename_i ho
      obtain rfl : xs = [] := List.eq_nil_of_length_eq_zero hl
      cases hs
      exact ⟨by simp [ho], rfl⟩
    · cases hs
  | f :: r, off, s, [], hs, hl, hx, hw => by simp at hl
  | f :: r, off, s, x :: xs, hs, hl, hx, hw => by
    unfold fieldsOf at hs
    split at hs
    case isFalse => cases hs
    rename_i ho
    obtain ⟨s1, h1, h2⟩ := Option.bind_eq_some_iff.1 hs
    obtain ⟨q, h3, rfl⟩ := Option.map_eq_some_iff.1 h2
    have k0 := hx 0 f rfl
    refine ⟨Rows.uptoBulk x.1, Rows.uptoBulkAll (xs.map (·.1)) + 1, ?_, ?_, ?_⟩
    · simp only [List.map_cons, Rows.uptoBulkAll]; omega
    · rw [ho] at k0
      refine hg f.type s1 h1 _ x.1 x.2 k0 fun hf n hn => hw hf n ?_
      simp only [List.map_cons, DataW.weightsEach, List.mem_append]
      exact .inl hn
    · have := fields_met hg r (off + P.cellsOf f.type) q xs h3 (by simpa using hl) (fun i f' hf => hx (i + 1) f' hf) (fun hf n hn => hw hf n (by
        simp only [List.map_cons, DataW.weightsEach, List.mem_append]; exact .inr hn))
      rw [List.drop_drop]
      exact this
theorem rep_met {c : Nat} {s : Sh} {cs : List Value} {m : Nat} {e : TypeId}
    (hg : ∀ cs' d ps, DataW.trod enc P w 0 (fun _ => true) true m e cs' = some (d, ps) → (full = true → ∀ n ∈ d.weights P e, n ≤ reachBytes) → s.met w full cs' (Rows.uptoBulk d)) :
    ∀ (k i0 : Nat) (xs : List (DataW H × List MemPlace)), cs.length = (i0 + k) * c → xs.length = k →
      (∀ i, i < k → DataW.trod enc P w 0 (fun _ => true) true m e ((cs.drop ((i0 + i) * c)).take c) = xs[i]?) →
      (full = true → ∀ n ∈ DataW.weightsAll P e (xs.map (·.1)), n ≤ reachBytes) → (Sh.rep c s k).met w full (cs.drop (i0 * c)) (Rows.uptoBulkAll (xs.map (·.1)) + 1)
  | 0, i0, xs, hc, hl, hx, hw => by
    obtain rfl : xs = [] := List.eq_nil_of_length_eq_zero hl
    exact ⟨by simp [hc], rfl⟩
  | k + 1, i0, [], hc, hl, hx, hw => by simp at hl
  | k + 1, i0, x :: xs, hc, hl, hx, hw => by
    refine ⟨Rows.uptoBulk x.1, Rows.uptoBulkAll (xs.map (·.1)) + 1, ?_, ?_, ?_⟩
    · simp only [List.map_cons, Rows.uptoBulkAll]; omega
    · refine hg _ x.1 x.2 (hx 0 (by omega)) fun hf n hn => hw hf n ?_
      simp only [List.map_cons, DataW.weightsAll, List.mem_append]
      exact .inl hn
    · have := rep_met hg k (i0 + 1) xs (by rw [hc]; congr 1; omega) (by simpa using hl) (fun i hi => by
        have := hx (i + 1) (by omega)
        rw [show i0 + (i + 1) = i0 + 1 + i by omega] at this
        simpa using this) (fun hf n hn => hw hf n (by
        simp only [List.map_cons, DataW.weightsAll, List.mem_append]; exact .inr hn))
      rw [List.drop_drop]
      rw [show i0 * c + c = (i0 + 1) * c by rw [Nat.add_mul]; omega]
      exact this
theorem met_of_trod : ∀ (f : Nat) (t : TypeId) (s : Sh), shapeOf P f t = some s → ∀ (fuel : Nat) (cs : List Value) (d : DataW H) (ps : List MemPlace),
    DataW.trod enc P w 0 (fun _ => true) true fuel t cs = some (d, ps) → (full = true → ∀ n ∈ d.weights P t, n ≤ reachBytes) → s.met w full cs (Rows.uptoBulk d)
  | 0, t, s, hs, _, _, _, _, _, _ => by cases hs
  | f + 1, t, s, hs, fuel, cs, d, ps, h, hw => by
    unfold shapeOf at hs
    split at hs
    · rename_i hu
      cases hs
      obtain ⟨b, rfl, hx⟩ := DataW.trod_bool hu h
      cases hx
      exact ⟨rfl, b, rfl⟩
    · rename_i k hu
      cases hs
      obtain ⟨z, rfl, hx, hz⟩ := DataW.trod_int hu h
      cases hx
      exact ⟨rfl, z, rfl, hz⟩
    · rename_i hu
      cases hs
      obtain ⟨b, rfl, hx, hz⟩ := DataW.trod_string hu h
      cases hx
      have hb : b.data.toList.length = b.size := Array.length_toList
      refine ⟨b, rfl, by simp only [Rows.uptoBulk]; rw [hb], hz, fun hf => ?_⟩
      have := hw hf b.data.toList.length (by simp only [DataW.weights]; exact List.mem_singleton.2 rfl)
      rw [hb] at this
      exact this
    · rename_i e hu
      obtain ⟨s1, h1, rfl⟩ := Option.map_eq_some_iff.1 hs
      rcases Go.Deep.open_slice hu h with ⟨rfl, hx⟩ | ⟨a, len, cap, m, n, D, Pl, rfl, _, hl, hm, hmm, hx, hel⟩
      · cases hx
        exact .inl ⟨by simp [Rows.uptoBulk], rfl⟩
      · simp only [if_true] at hmm
        subst hmm
        cases hx
        have hall : (List.range len).map D ++ (List.range (m - len)).map (fun j => D (len + j)) = (List.range m).map D := by
          have e1 : m = len + (m - len) := by omega
          conv => rhs; rw [e1, List.range_add]
          simp [List.map_append, Function.comp_def]
        have hD : ∀ i, i < m → D i ∈ (List.range len).map D ∨ D i ∈ (List.range (m - len)).map (fun j => D (len + j)) := by
          intro i hi
          have : D i ∈ (List.range m).map D := List.mem_map.2 ⟨i, List.mem_range.2 hi, rfl⟩
          rw [← hall] at this
          exact List.mem_append.1 this
        have each : ∀ i, i < m → ∃ c : List Value, c.length = P.cellsOf e ∧ (∀ j, j < P.cellsOf e → w.cell? (a.add (i * P.cellsOf e + j)) = c[j]?) ∧ s1.met w full c (Rows.uptoBulk (D i)) := by
          intro i hi
          obtain ⟨c, g1, g2⟩ := hel i hi
          obtain ⟨_, g3, g4⟩ := World.cells?_some g1
          refine ⟨c, g3, fun j hj => ?_, met_of_trod f e s1 h1 n c (D i) (Pl i) g2 fun hf k hk => hw hf k ?_⟩
          · rw [← g4 j hj, Go.Deep.add_add]
          · simp only [DataW.weights, hu, List.mem_cons, List.mem_append]
            rcases hD i hi with q | q
            · exact .inr (.inl (weights_all hk q))
            · exact .inr (.inr (weights_all hk q))
        obtain ⟨C, hC⟩ := Go.Deep.choose_lt each
        refine .inr ⟨a, len, m, fun i => Rows.uptoBulk (D i), C, rfl, ?_, hl, hm, fun hf => ?_, hC⟩
        · simp only [Rows.uptoBulk]
          rw [← bulkAll_append, hall, bulkAll_range]
        · have := hw hf ((((List.range len).map D).length + ((List.range (m - len)).map (fun j => D (len + j))).length) * P.bytesOf e) (by
            simp only [DataW.weights, hu]; exact List.mem_cons_self)
          simp only [List.length_map, List.length_range] at this
          rw [show len + (m - len) = m by omega] at this
          exact this
    · rename_i fs hu
      obtain ⟨xs, n, hn, hx, hcl, hxl, hf⟩ := DataW.trod_struct hu h
      cases hx
      rw [← hcl] at hs
      have := fields_met (enc := enc) (P := P) (w := w) (full := full) (cs := cs) (m := n) (fun t' s' h' cs' d' ps' => met_of_trod f t' s' h' n cs' d' ps') fs.toList 0 s xs hs (by simpa using hxl) (fun i f' hf' => hf i f' (by simpa using hf')) (fun hfu k hk => hw hfu k (by simp only [DataW.weights, hu]; exact hk))
      simpa [Rows.uptoBulk] using this
    · rename_i n e hu
      split at hs
      case isFalse => cases hs
      rename_i hc
      obtain ⟨s1, h1, rfl⟩ := Option.map_eq_some_iff.1 hs
      obtain ⟨xs, m, hm, hx, hcl, hxl, hf⟩ := DataW.trod_array hu h
      cases hx
      have := rep_met (enc := enc) (P := P) (w := w) (full := full) (c := P.cellsOf e) (s := s1) (cs := cs) (m := m) (e := e) (fun cs' d' ps' => met_of_trod f e s1 h1 m cs' d' ps') n 0 xs (by rw [hcl, hc]; simp) hxl (fun i hi => by simpa using hf i hi) (fun hfu k hk => hw hfu k (by simp only [DataW.weights, hu]; exact hk))
      simpa [Rows.uptoBulk] using this
    · cases hs
/-- an argument -/
def Sh.shown (w : World) (full : Bool) (s : Sh) (v : Value) (n : Nat) : Prop := match s.agg with
  | true => ∃ cs, v = .agg cs ∧ s.met w full cs.toList n
  | false => s.met w full [v] n
theorem fields_agg {g : TypeId → Option Sh} {top : Nat} : ∀ {fl : List Field} {off : Nat} {s : Sh}, fieldsOf P g top off fl = some s → s.agg = true
  | [], off, s, h => by
    unfold fieldsOf at h
    split at h
    · cases h; rfl
    · cases h
  | f :: r, off, s, h => by
    unfold fieldsOf at h
    split at h
    · obtain ⟨s1, h1, h2⟩ := Option.bind_eq_some_iff.1 h
      obtain ⟨q, h3, rfl⟩ := Option.map_eq_some_iff.1 h2
      rfl
    · cases h
theorem rep_agg (c : Nat) (s : Sh) (n : Nat) : (Sh.rep c s n).agg = true := by
  cases n with
  | zero => rfl
  | succ n => rfl
theorem shown_agg {s : Sh} {cs : Array Value} {n : Nat} (hs : s.agg = true) (h : s.met w full cs.toList n) : s.shown w full (.agg cs) n := by
  unfold Sh.shown
  rw [hs]
  exact ⟨cs, rfl, h⟩
theorem shown_of {f : Nat} {t : TypeId} {s : Sh} (hs : shapeOf P f t = some s) {r : Reach} {base : Nat} {v : Value} {d : DataW H} {ps : List MemPlace} (hv : Value.okWide P w r base t v)
    (h : DataW.Trod enc P w 0 (fun _ => true) true t v d ps) (hw : full = true → ∀ n ∈ d.weights P t, n ≤ reachBytes) : s.shown w full v (Rows.uptoBulk d) := by
  obtain ⟨fuel, hf⟩ := h
  have hm := met_of_trod (full := full) f t s hs fuel _ d ps hf hw
  cases f with
  | zero => cases hs
  | succ f =>
    unfold shapeOf at hs
    split at hs
    · rename_i hu
      cases hs
      obtain ⟨b, rfl⟩ := okWide_bool hu hv
      exact hm
    · rename_i k hu
      cases hs
      obtain ⟨z, rfl⟩ := okWide_int hu hv
      exact hm
    · rename_i hu
      cases hs
      obtain ⟨z, rfl⟩ := okWide_string hu hv
      exact hm
    · rename_i e hu
      obtain ⟨s1, h1, rfl⟩ := Option.map_eq_some_iff.1 hs
      obtain ⟨a, l, c, rfl⟩ := okWide_slice hu hv
      exact hm
    · rename_i fs hu
      obtain ⟨cs, rfl, _⟩ := okWide_struct hu hv
      exact shown_agg (fields_agg hs) hm
    · rename_i n e hu
      split at hs
      case isFalse => cases hs
      obtain ⟨s1, h1, rfl⟩ := Option.map_eq_some_iff.1 hs
      have hv2 := hv
      simp only [Value.okWide, hu] at hv2
      obtain ⟨cs, rfl, _⟩ := hv2
      exact shown_agg (rep_agg _ _ _) hm
    · cases hs
end
end

section
theorem Ans.set {w : World} {lo g n cap : Nat} {L : List Nat} (h : Ans w lo (some ⟨g, 0, none⟩) n cap L) (j x : Nat) (hx : x < 256) : Ans (w.setCell ⟨g, j, none⟩ (.int .u8 (x : Int))) lo (some ⟨g, 0, none⟩) n cap (L.set j x) :=
  ⟨own_set h.own j x, isB_set h.byte _ _ hx, h.new⟩
end
end Go.Proofs.Ytnjdbbjhplebhaa
