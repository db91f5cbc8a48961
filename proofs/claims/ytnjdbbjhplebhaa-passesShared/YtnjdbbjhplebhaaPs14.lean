import Derived.Test.YtnjdbbjhplebhaaRows
import Derived.OpenShut
import Derived.SizedLaws
import Derived.Deep.Slices
import Derived.Test.YtnjdbbjhplebhaaPs1
import Derived.Laws.BitsAllLaws
import Derived.Test.YtnjdbbjhplebhaaPs10
import Derived.Deep.CutBlock
import Derived.Test.YtnjdbbjhplebhaaPs13
namespace Go.Proofs.Ytnjdbbjhplebhaa
open Go.RowKit
set_option maxRecDepth 100000
set_option linter.unusedVariables false
set_option linter.unusedSimpArgs false

section
open Go.ChangeShapes Go.WideShapes

/-- a type's shape, as a reading goes through it: fields in a row (a struct, an array), slices, numbers; mt: what a reading tells of cells; n: how much is read -/
structure Sh where
  agg : Bool
  mt : World → Bool → List Value → Nat → Prop
def sumN (F : Nat → Nat) : Nat → Nat
  | 0 => 0
  | n + 1 => sumN F n + F n
def Sh.met (w : World) (full : Bool) (s : Sh) (cs : List Value) (n : Nat) : Prop := s.mt w full cs n
def Sh.bool : Sh := ⟨false, fun w full cs n => n = 1 ∧ ∃ b, cs = [.bool b]⟩
def Sh.int (k : IntKind) : Sh := ⟨false, fun w full cs n => n = 1 ∧ ∃ z, cs = [.int k z] ∧ (Lit.int k z).wf = true⟩
def Sh.str : Sh := ⟨false, fun w full cs n => ∃ s : ByteArray, cs = [.string s] ∧ n = s.size + 1 ∧ s.size ≤ maxLen ∧ (full = true → s.size ≤ reachBytes)⟩
def Sh.slice (c b : Nat) (e : Sh) : Sh := ⟨false, fun w full cs n => (n = 1 ∧ cs = [.slice none 0 0]) ∨
      ∃ (a : Addr) (len cap : Nat) (F : Nat → Nat) (C : Nat → List Value), cs = [.slice (some a) len cap] ∧ n = sumN F cap + 1 ∧ len ≤ cap ∧ cap ≤ maxLen ∧ (full = true → cap * b ≤ reachBytes) ∧
        ∀ i, i < cap → (C i).length = c ∧ (∀ j, j < c → w.cell? (a.add (i * c + j)) = (C i)[j]?) ∧ e.mt w full (C i) (F i)⟩
def Sh.fend : Sh := ⟨true, fun w full cs n => cs = [] ∧ n = 1⟩
def Sh.fcons (c : Nat) (s r : Sh) : Sh := ⟨true, fun w full cs n => ∃ n1 n2, n = n1 + n2 ∧ s.mt w full (cs.take c) n1 ∧ r.mt w full (cs.drop c) n2⟩
def Sh.rep (c : Nat) (s : Sh) : Nat → Sh
  | 0 => .fend
  | n + 1 => .fcons c s (Sh.rep c s n)
def fieldsOf (P : Program) (g : TypeId → Option Sh) (top : Nat) : Nat → List Field → Option Sh
  | off, [] => if off = top then some .fend else none
  | off, f :: r => if f.offset = off then (g f.type).bind fun s => (fieldsOf P g top (off + P.cellsOf f.type) r).map fun q => .fcons (P.cellsOf f.type) s q else none
def shapeOf (P : Program) : Nat → TypeId → Option Sh
  | 0, _ => none
  | f + 1, t => match P.underlying t with
    | some .bool => some .bool
    | some (.int k) => some (.int k)
    | some .string => some .str
    | some (.slice e) => (shapeOf P f e).map fun s => .slice (P.cellsOf e) (P.bytesOf e) s
    | some (.struct fs) => fieldsOf P (shapeOf P f) (P.cellsOf t) 0 fs.toList
    | some (.array n e) => if P.cellsOf t = n * P.cellsOf e then (shapeOf P f e).map fun s => Sh.rep (P.cellsOf e) s n else none
    | _ => none
section
variable {H : Type} {enc : TypeId × Value → H} {P : Program} {w : World} {full : Bool}
theorem bulkAll_append (l r : List (DataW H)) : Rows.uptoBulkAll (l ++ r) = Rows.uptoBulkAll l + Rows.uptoBulkAll r := by
  induction l with
  | nil => simp [Rows.uptoBulkAll]
  | cons d l ih => simp only [List.cons_append, Rows.uptoBulkAll, ih]; omega
theorem bulkAll_range (D : Nat → DataW H) (n : Nat) : Rows.uptoBulkAll ((List.range n).map D) = sumN (fun i => Rows.uptoBulk (D i)) n := by
  induction n with
  | zero => rfl
  | succ n ih => rw [List.range_succ, List.map_append, bulkAll_append, ih]; simp [sumN, Rows.uptoBulkAll]
theorem weights_all {e : TypeId} {n : Nat} {d : DataW H} (hn : n ∈ d.weights P e) : ∀ {l : List (DataW H)}, d ∈ l → n ∈ DataW.weightsAll P e l
  | [], h => by cases h
  | x :: l, h => by
    simp only [DataW.weightsAll, List.mem_append]
    rcases List.mem_cons.1 h with rfl | h
    · exact .inl hn
    · exact .inr (weights_all hn h)
theorem fields_met {g : TypeId → Option Sh} {cs : List Value} {m : Nat}
    (hg : ∀ t s, g t = some s → ∀ cs' d ps, DataW.trod enc P w 0 (fun _ => true) true m t cs' = some (d, ps) → (full = true → ∀ n ∈ d.weights P t, n ≤ reachBytes) → s.met w full cs' (Rows.uptoBulk d)) :
    ∀ (fl : List Field) (off : Nat) (s : Sh) (xs : List (DataW H × List MemPlace)), fieldsOf P g cs.length off fl = some s → xs.length = fl.length →
      (∀ (i : Nat) (f : Field), fl[i]? = some f → DataW.trod enc P w 0 (fun _ => true) true m f.type ((cs.drop f.offset).take (P.cellsOf f.type)) = xs[i]?) →
      (full = true → ∀ n ∈ DataW.weightsEach P (fl.map (·.type)) (xs.map (·.1)), n ≤ reachBytes) → s.met w full (cs.drop off) (Rows.uptoBulkAll (xs.map (·.1)) + 1)
  | [], off, s, xs, hs, hl, hx, hw => by
    unfold fieldsOf at hs
    split at hs
    · rename_i ho
      obtain rfl : xs = [] := List.eq_nil_of_length_eq_zero hl
      cases hs
      exact ⟨by simp [ho], rfl⟩
    · cases hs
  | f :: r, off, s, [], hs, hl, hx, hw => by simp at hl
  | f :: r, off, s, x :: xs, hs, hl, hx, hw => by
    unfold fieldsOf at hs
    split at hs
    case isFalse => cases hs
    rename_i ho
    obtain ⟨s1, h1, h2⟩ := Option.bind_eq_some_iff.1 hs
    obtain ⟨q, h3, rfl⟩ := Option.map_eq_some_iff.1 h2
    have k0 := hx 0 f rfl
    refine ⟨Rows.uptoBulk x.1, Rows.uptoBulkAll (xs.map (·.1)) + 1, ?_, ?_, ?_⟩
    · simp only [List.map_cons, Rows.uptoBulkAll]; omega
    · rw [ho] at k0
      refine hg f.type s1 h1 _ x.1 x.2 k0 fun hf n hn => hw hf n ?_
      simp only [List.map_cons, DataW.weightsEach, List.mem_append]
      exact .inl hn
    · have := fields_met hg r (off + P.cellsOf f.type) q xs h3 (by simpa using hl) (fun i f' hf => hx (i + 1) f' hf) (fun hf n hn => hw hf n (by
        simp only [List.map_cons, DataW.weightsEach, List.mem_append]; exact .inr hn))
      rw [List.drop_drop]
      exact this
theorem rep_met {c : Nat} {s : Sh} {cs : List Value} {m : Nat} {e : TypeId}
    (hg : ∀ cs' d ps, DataW.trod enc P w 0 (fun _ => true) true m e cs' = some (d, ps) → (full = true → ∀ n ∈ d.weights P e, n ≤ reachBytes) → s.met w full cs' (Rows.uptoBulk d)) :
    ∀ (k i0 : Nat) (xs : List (DataW H × List MemPlace)), cs.length = (i0 + k) * c → xs.length = k →
      (∀ i, i < k → DataW.trod enc P w 0 (fun _ => true) true m e ((cs.drop ((i0 + i) * c)).take c) = xs[i]?) →
      (full = true → ∀ n ∈ DataW.weightsAll P e (xs.map (·.1)), n ≤ reachBytes) → (Sh.rep c s k).met w full (cs.drop (i0 * c)) (Rows.uptoBulkAll (xs.map (·.1)) + 1)
  | 0, i0, xs, hc, hl, hx, hw => by
    obtain rfl : xs = [] := List.eq_nil_of_length_eq_zero hl
    exact ⟨by simp [hc], rfl⟩
  | k + 1, i0, [], hc, hl, hx, hw => by simp at hl
  | k + 1, i0, x :: xs, hc, hl, hx, hw => by
    refine ⟨Rows.uptoBulk x.1, Rows.uptoBulkAll (xs.map (·.1)) + 1, ?_, ?_, ?_⟩
    · simp only [List.map_cons, Rows.uptoBulkAll]; omega
    · refine hg _ x.1 x.2 (hx 0 (by omega)) fun hf n hn => hw hf n ?_
      simp only [List.map_cons, DataW.weightsAll, List.mem_append]
      exact .inl hn
    · have := rep_met hg k (i0 + 1) xs (by rw [hc]; congr 1; omega) (by simpa using hl) (fun i hi => by
        have := hx (i + 1) (by omega)
        rw [show i0 + (i + 1) = i0 + 1 + i by omega] at this
        simpa using this) (fun hf n hn => hw hf n (by
        simp only [List.map_cons, DataW.weightsAll, List.mem_append]; exact .inr hn))
      rw [List.drop_drop]
      rw [show i0 * c + c = (i0 + 1) * c by rw [Nat.add_mul]; omega]
      exact this
theorem met_of_trod : ∀ (f : Nat) (t : TypeId) (s : Sh), shapeOf P f t = some s → ∀ (fuel : Nat) (cs : List Value) (d : DataW H) (ps : List MemPlace),
    DataW.trod enc P w 0 (fun _ => true) true fuel t cs = some (d, ps) → (full = true → ∀ n ∈ d.weights P t, n ≤ reachBytes) → s.met w full cs (Rows.uptoBulk d)
  | 0, t, s, hs, _, _, _, _, _, _ => by cases hs
  | f + 1, t, s, hs, fuel, cs, d, ps, h, hw => by
    unfold shapeOf at hs
    split at hs
    · rename_i hu
      cases hs
      obtain ⟨b, rfl, hx⟩ := DataW.trod_bool hu h
      cases hx
      exact ⟨rfl, b, rfl⟩
    · rename_i k hu
      cases hs
      obtain ⟨z, rfl, hx, hz⟩ := DataW.trod_int hu h
      cases hx
      exact ⟨rfl, z, rfl, hz⟩
    · rename_i hu
      cases hs
      obtain ⟨b, rfl, hx, hz⟩ := DataW.trod_string hu h
      cases hx
      have hb : b.data.toList.length = b.size := Array.length_toList
      refine ⟨b, rfl, by simp only [Rows.uptoBulk]; rw [hb], hz, fun hf => ?_⟩
      have := hw hf b.data.toList.length (by simp only [DataW.weights]; exact List.mem_singleton.2 rfl)
      rw [hb] at this
      exact this
    · rename_i e hu
      obtain ⟨s1, h1, rfl⟩ := Option.map_eq_some_iff.1 hs
      rcases Go.Deep.open_slice hu h with ⟨rfl, hx⟩ | ⟨a, len, cap, m, n, D, Pl, rfl, _, hl, hm, hmm, hx, hel⟩
      · cases hx
        exact .inl ⟨by simp [Rows.uptoBulk], rfl⟩
      · simp only [if_true] at hmm
        subst hmm
        cases hx
        have hall : (List.range len).map D ++ (List.range (m - len)).map (fun j => D (len + j)) = (List.range m).map D := by
          have e1 : m = len + (m - len) := by omega
          conv => rhs; rw [e1, List.range_add]
          simp [List.map_append, Function.comp_def]
        have hD : ∀ i, i < m → D i ∈ (List.range len).map D ∨ D i ∈ (List.range (m - len)).map (fun j => D (len + j)) := by
          intro i hi
          have : D i ∈ (List.range m).map D := List.mem_map.2 ⟨i, List.mem_range.2 hi, rfl⟩
          rw [← hall] at this
          exact List.mem_append.1 this
        have each : ∀ i, i < m → ∃ c : List Value, c.length = P.cellsOf e ∧ (∀ j, j < P.cellsOf e → w.cell? (a.add (i * P.cellsOf e + j)) = c[j]?) ∧ s1.met w full c (Rows.uptoBulk (D i)) := by
          intro i hi
          obtain ⟨c, g1, g2⟩ := hel i hi
          obtain ⟨_, g3, g4⟩ := World.cells?_some g1
          refine ⟨c, g3, fun j hj => ?_, met_of_trod f e s1 h1 n c (D i) (Pl i) g2 fun hf k hk => hw hf k ?_⟩
          · rw [← g4 j hj, Go.Deep.add_add]
          · simp only [DataW.weights, hu, List.mem_cons, List.mem_append]
            rcases hD i hi with q | q
            · exact .inr (.inl (weights_all hk q))
            · exact .inr (.inr (weights_all hk q))
        obtain ⟨C, hC⟩ := Go.Deep.choose_lt each
        refine .inr ⟨a, len, m, fun i => Rows.uptoBulk (D i), C, rfl, ?_, hl, hm, fun hf => ?_, hC⟩
        · simp only [Rows.uptoBulk]
          rw [← bulkAll_append, hall, bulkAll_range]
        · have := hw hf ((((List.range len).map D).length + ((List.range (m - len)).map (fun j => D (len + j))).length) * P.bytesOf e) (by
            simp only [DataW.weights, hu]; exact List.mem_cons_self)
          simp only [List.length_map, List.length_range] at this
          rw [show len + (m - len) = m by omega] at this
          exact this
    · rename_i fs hu
      obtain ⟨xs, n, hn, hx, hcl, hxl, hf⟩ := DataW.trod_struct hu h
      cases hx
      rw [← hcl] at hs
      have := fields_met (enc := enc) (P := P) (w := w) (full := full) (cs := cs) (m := n) (fun t' s' h' cs' d' ps' => met_of_trod f t' s' h' n cs' d' ps') fs.toList 0 s xs hs (by simpa using hxl) (fun i f' hf' => hf i f' (by simpa using hf')) (fun hfu k hk => hw hfu k (by simp only [DataW.weights, hu]; exact hk))
      simpa [Rows.uptoBulk] using this
    · rename_i n e hu
      split at hs
      case isFalse => cases hs
      rename_i hc
      obtain ⟨s1, h1, rfl⟩ := Option.map_eq_some_iff.1 hs
      obtain ⟨xs, m, hm, hx, hcl, hxl, hf⟩ := DataW.trod_array hu h
      cases hx
      have := rep_met (enc := enc) (P := P) (w := w) (full := full) (c := P.cellsOf e) (s := s1) (cs := cs) (m := m) (e := e) (fun cs' d' ps' => met_of_trod f e s1 h1 m cs' d' ps') n 0 xs (by rw [hcl, hc]; simp) hxl (fun i hi => by simpa using hf i hi) (fun hfu k hk => hw hfu k (by simp only [DataW.weights, hu]; exact hk))
      simpa [Rows.uptoBulk] using this
    · cases hs
/-- an argument -/
def Sh.shown (w : World) (full : Bool) (s : Sh) (v : Value) (n : Nat) : Prop := match s.agg with
  | true => ∃ cs, v = .agg cs ∧ s.met w full cs.toList n
  | false => s.met w full [v] n
theorem fields_agg {g : TypeId → Option Sh} {top : Nat} : ∀ {fl : List Field} {off : Nat} {s : Sh}, fieldsOf P g top off fl = some s → s.agg = true
  | [], off, s, h => by
    unfold fieldsOf at h
    split at h
    · cases h; rfl
    · cases h
  | f :: r, off, s, h => by
    unfold fieldsOf at h
    split at h
    · obtain ⟨s1, h1, h2⟩ := Option.bind_eq_some_iff.1 h
      obtain ⟨q, h3, rfl⟩ := Option.map_eq_some_iff.1 h2
      rfl
    · cases h
theorem rep_agg (c : Nat) (s : Sh) (n : Nat) : (Sh.rep c s n).agg = true := by
  cases n with
  | zero => rfl
  | succ n => rfl
theorem shown_agg {s : Sh} {cs : Array Value} {n : Nat} (hs : s.agg = true) (h : s.met w full cs.toList n) : s.shown w full (.agg cs) n := by
  unfold Sh.shown
  rw [hs]
  exact ⟨cs, rfl, h⟩
theorem shown_of {f : Nat} {t : TypeId} {s : Sh} (hs : shapeOf P f t = some s) {r : Reach} {base : Nat} {v : Value} {d : DataW H} {ps : List MemPlace} (hv : Value.okWide P w r base t v)
    (h : DataW.Trod enc P w 0 (fun _ => true) true t v d ps) (hw : full = true → ∀ n ∈ d.weights P t, n ≤ reachBytes) : s.shown w full v (Rows.uptoBulk d) := by
  obtain ⟨fuel, hf⟩ := h
  have hm := met_of_trod (full := full) f t s hs fuel _ d ps hf hw
  cases f with
  | zero => cases hs
  | succ f =>
    unfold shapeOf at hs
    split at hs
    · rename_i hu
      cases hs
      obtain ⟨b, rfl⟩ := okWide_bool hu hv
      exact hm
    · rename_i k hu
      cases hs
      obtain ⟨z, rfl⟩ := okWide_int hu hv
      exact hm
    · rename_i hu
      cases hs
      obtain ⟨z, rfl⟩ := okWide_string hu hv
      exact hm
    · rename_i e hu
      obtain ⟨s1, h1, rfl⟩ := Option.map_eq_some_iff.1 hs
      obtain ⟨a, l, c, rfl⟩ := okWide_slice hu hv
      exact hm
    · rename_i fs hu
      obtain ⟨cs, rfl, _⟩ := okWide_struct hu hv
      exact shown_agg (fields_agg hs) hm
    · rename_i n e hu
      split at hs
      case isFalse => cases hs
      obtain ⟨s1, h1, rfl⟩ := Option.map_eq_some_iff.1 hs
      have hv2 := hv
      simp only [Value.okWide, hu] at hv2
      obtain ⟨cs, rfl, _⟩ := hv2
      exact shown_agg (rep_agg _ _ _) hm
    · cases hs
end
end

section
theorem Ans.set {w : World} {lo g n cap : Nat} {L : List Nat} (h : Ans w lo (some ⟨g, 0, none⟩) n cap L) (j x : Nat) (hx : x < 256) : Ans (w.setCell ⟨g, j, none⟩ (.int .u8 (x : Int))) lo (some ⟨g, 0, none⟩) n cap (L.set j x) :=
  ⟨own_set h.own j x, isB_set h.byte _ _ hx, h.new⟩
theorem Ans.wide {w : World} {lo lo' : Nat} {a : Option Addr} {n cap : Nat} {L : List Nat} (h : Ans w lo a n cap L) (hl : lo' ≤ lo) : Ans w lo' a n cap L := ⟨h.own, h.byte, fun g hg => Nat.le_trans hl (h.new g hg)⟩
end

section
def cells3 (x : Jb) : List Value := (tJ x).cells
def flT (P : List Jb) : List Value := P.flatMap cells3
/-- windows or jobs in a row of the call's own -/
structure OwT3 (t : TypeId) (w : World) (lo : Nat) (a : Option Addr) (n c : Nat) (W : Nat → Jb) : Prop where
  own : w.ownsRow 0 t 3 (.slice a n c) n (flT ((List.range n).map W))
  new : ∀ g, (Value.slice a n c).ownBlock = some g → lo ≤ g
theorem OwT3.nil (t : TypeId) (w : World) (lo : Nat) (W : Nat → Jb) : OwT3 t w lo none 0 0 W := ⟨World.ownsRow_nil _ _ _ _, (fun g h => by cases h)⟩
theorem OwT3.keep {t : TypeId} {w w' : World} {lo : Nat} {a : Option Addr} {n c : Nat} {W : Nat → Jb} (h : OwT3 t w lo a n c W) (hg : w.grownBy w' none) : OwT3 t w' lo a n c W :=
  ⟨h.own.kept hg (by cases (Value.slice a n c).ownBlock <;> simp), h.new⟩
theorem OwT3.keepR {t : TypeId} {w w' : World} {lo : Nat} {a : Option Addr} {n c : Nat} {W : Nat → Jb} {r : Option Nat} (h : OwT3 t w lo a n c W) (hg : w.grownBy w' r) (hr : (Value.slice a n c).ownBlock = none ∨ (Value.slice a n c).ownBlock ≠ r) : OwT3 t w' lo a n c W :=
  ⟨h.own.kept hg hr, h.new⟩
theorem info_parts3 {t : TypeId} (h : (Try.prog.info? t).map (fun i => (i.zero, i.size, i.bytes)) = some (some (.agg #[.int .i64 0, .int .i64 0, .int .i64 0]), 3, 24)) : ∃ i, Try.prog.info? t = some i ∧ i.zero = some (.agg #[.int .i64 0, .int .i64 0, .int .i64 0]) ∧ i.size = 3 ∧ i.bytes = 24 := info_parts h
theorem Try.info_wdF : (Try.prog.info? 32).map (fun i => (i.zero, i.size, i.bytes)) = some (some (.agg #[.int .i64 0, .int .i64 0, .int .i64 0]), 3, 24) := by kernel_rfl
theorem Try.info_joF : (Try.prog.info? 34).map (fun i => (i.zero, i.size, i.bytes)) = some (some (.agg #[.int .i64 0, .int .i64 0, .int .i64 0]), 3, 24) := by kernel_rfl
end

section
theorem sumF_bd (f : Nat → Nat) (c : Nat) (h : ∀ i, f i ≤ c) (n : Nat) : sumF f n ≤ n * c := by
  induction n with
  | zero => simp [sumF]
  | succ n ih =>
    have h2 := h n
    have h3 : sumF f (n + 1) = sumF f n + f n := rfl
    rw [h3, Nat.succ_mul]
    exact Nat.add_le_add ih h2
/-- has a stretch of time room enough? -/
def okS (W J : Nat → Jb) (wn jn a b : Nat) : Prop := need J jn a b + sumF (rtW W wn) a ≤ sumF (rtW W wn) b
/-- the row of rates within the round of one window -/
def rtP (W : Nat → Jb) (i t s : Nat) : Nat := rtW W i s + (if (W i).fr ≤ s ∧ s < t then (W i).by8 else 0)
theorem rtP_start (W : Nat → Jb) (i : Nat) : rtP W i (W i).fr = rtW W i := by
  funext s
  unfold rtP
  rw [if_neg (by omega)]
  rfl
theorem rtP_end (W : Nat → Jb) (i : Nat) : rtP W i (W i).by' = rtW W (i + 1) := rfl
theorem rtP_step (W : Nat → Jb) (i t : Nat) (h : (W i).fr ≤ t) : atG (fun s => (rtP W i t s : Int)) t ((rtP W i t t : Int) + ((W i).by8 : Int)) = fun s => (rtP W i (t + 1) s : Int) := by
  funext s
  unfold atG rtP
  rw [if_neg (by omega : ¬ ((W i).fr ≤ t ∧ t < t))]
  by_cases e : s = t
  · subst e
    rw [if_pos rfl, if_pos ⟨h, by omega⟩]
    omega
  · rw [if_neg e]
    dsimp only
    by_cases h2 : (W i).fr ≤ s ∧ s < t
    · rw [if_pos h2, if_pos ⟨h2.1, by omega⟩]
    · rw [if_neg h2, if_neg (by omega)]
end

section
set_option maxHeartbeats 32000000 in
theorem rates_any (w : World) (wa : Option Addr) (wn wc : Nat) (W : Nat → Jb) (hW : RdT w wa wn wc (fun i => tJ (W i))) (hok : ∀ i, i < wn → (W i).fr ≤ (W i).by' ∧ (W i).by' ≤ 20000 ∧ (W i).by8 ≤ 1000000) (hn : wn ≤ 200) :
    Calls Try.prog 13 #[.slice wa wn wc] w fun e w' => ∃ ga, e = .returned (.slice (some ⟨ga, 0, none⟩) 20000 20000) ∧ InB w' ga 20000 (fun t => (rtW W wn t : Int)) ∧ w.heap.size ≤ ga ∧ w.grownBy w' none := by
  have HW : Hid _ := hW
  have HOK : Hid _ := hok
  have HN : Hid (wn ≤ 200) := hn
  have hn6 : (wn : Int) ≤ 200 := by omega
  clear hW hok hn
  go_enter Try.func13, Try.ntmps13
  refine wp_seq_k fun K0 hK0 => ?_
  have HK0 : Hid _ := hK0
  clear hK0
  go_wp2
  refine HK0.out _ _ ?_
  clear HK0
  refine wp_seq_k fun K1 hK1 => ?_
  have HK1 : Hid _ := hK1
  clear hK1
  have s0 : True := trivial
  go_wp2_with (first
    | (at_make; have _t := s0; clear s0; refine wpList_mkIn rfl _ _ rfl 20000 rfl rfl (by decide) ?_; intro w1 hi1 g1))
  obtain ⟨g8, hg8⟩ : ∃ g8, g8 = w.heap.size := ⟨_, rfl⟩
  rw [← hg8] at hi1 ⊢
  have HG8 : Hid _ := hg8
  have HI1 : Hid (InB w1 g8 20000 (fun t => (rtW W 0 t : Int))) := InB.eq hi1 (fun i _ => rfl)
  have HG1 : Hid (w.grownBy w1 none) := g1
  clear hg8 hi1 g1
  refine HK1.out _ _ ?_
  clear HK1
  refine wp_seq_k fun K2 hK2 => ?_
  have HK2 : Hid _ := hK2
  clear hK2
  go_wp2
  go_loopw [4] (fun v4 wr => ∃ i : Nat, i ≤ wn ∧ v4 = .int .i64 (i : Nat) ∧ Hid (InB wr g8 20000 (fun t => (rtW W i t : Int))) ∧ Hid (w.grownBy wr none)) (fun v4 _ => wn - (intOf v4).toNat)
  case atStart => exact ⟨0, Nat.zero_le _, rfl, HI1.out, HG1.out⟩
  case round =>
    obtain ⟨i, hi, rfl, hI, hg⟩ := hrel
    by_cases hlt : i < wn
    · have lk : (i : Int) < (wn : Int) := by omega
      have hi6 : (i : Int) ≤ 200 := by omega
      obtain ⟨b, off, hma, hbl, hc⟩ := HW.out.at' (by omega)
      have hc := hc i hlt
      have hrw : ∀ wz, w.grownBy wz none → wz.rangeAt b (off + i * 3) (tJ (W i)).cells := fun wz hz => range_block hc (hz.block b hbl (by simp))
      obtain ⟨o1, o2, o3⟩ := HOK.out i hlt
      obtain ⟨f, hf⟩ : ∃ f, f = (W i).fr := ⟨_, rfl⟩
      obtain ⟨t, ht⟩ : ∃ t, t = (W i).by' := ⟨_, rfl⟩
      obtain ⟨r, hr⟩ : ∃ r, r = (W i).by8 := ⟨_, rfl⟩
      have HWI : Hid (W i = ⟨f, t, r⟩) := by show _ = _; rw [hf, ht, hr]
      have HTL : Hid (t ≤ 20000 ∧ f ≤ t ∧ r ≤ 1000000) := ⟨by omega, by omega, by omega⟩
      have ht6 : (t : Int) ≤ 20000 := by omega
      have hf6 : (f : Int) ≤ 20000 := by omega
      have hr6 : (r : Int) ≤ 1000000 := by omega
      rw [HWI.out] at hrw
      have HRW : Hid _ := hrw
      have HLT : Hid (i < wn) := hlt
      have d := hrw wr hg.out
      have c0 := d 0 _ rfl
      have c1 := d 1 _ rfl
      have c2 := d 2 _ rfl
      simp only [Nat.add_zero, tJ] at c0 c1 c2
      have HI2 : Hid (InB wr g8 20000 (fun u => (rtP W i f u : Int))) := by
        have h := rtP_start W i
        rw [HWI.out] at h
        show InB _ _ _ _
        rw [show rtP W i f = rtW W i from h]
        exact hI.out
      have HBL : Hid (b < w.heap.size) := hbl
      subst hma
      clear hc hrw o1 o2 o3 hf ht hr hlt hi d hI hbl
      go_wp2
      go_loopw [5] (fun v5 wx => ∃ s : Nat, f ≤ s ∧ s ≤ t ∧ v5 = .int .i64 (s : Nat) ∧ Hid (InB wx g8 20000 (fun u => (rtP W i s u : Int))) ∧ Hid (w.grownBy wx none)) (fun v5 _ => t - (intOf v5).toNat)
      case atStart => exact ⟨f, Nat.le_refl _, HTL.out.2.1, rfl, HI2.out, hg.out⟩
      case round =>
        clear HI2 hg c0 c1 c2
        obtain ⟨s, hfs, hst, rfl, hI, hg⟩ := hrel
        have d := HRW.out wr hg.out
        have c0 := d 0 _ rfl
        have c1 := d 1 _ rfl
        have c2 := d 2 _ rfl
        simp only [Nat.add_zero, tJ] at c0 c1 c2
        clear d
        by_cases hlt2 : s < t
        · have lk2 : (s : Int) < (t : Int) := by omega
          have HS40 : Hid (s < 20000) := by have := HTL.out.1; show s < 20000; omega
          have hs40 : (s : Int) < 20000 := by omega
          have hst2 := rtP_step W i s (by rw [HWI.out]; exact hfs)
          rw [HWI.out] at hst2
          have hqb : rtP W i s s ≤ 900000000 := by
            have h1 := rt_bd W s i (fun j hj => (HOK.out j (by have := HLT.out; omega)).2.2)
            have h2 := HN.out
            have h3 := HLT.out
            unfold rtP
            rw [if_neg (by omega)]
            have h4 : i * 1000000 ≤ 200 * 1000000 := Nat.mul_le_mul_right _ (by omega)
            omega
          obtain ⟨q, hq⟩ : ∃ q, q = rtP W i s s := ⟨_, rfl⟩
          have HQG : Hid (((rtP W i s s : Nat) : Int) = (q : Int)) := by show _ = _; rw [← hq]
          rw [← hq] at hst2 hqb
          have hqi : (q : Int) ≤ 900000000 := by omega
          have HST : Hid (atG (fun u => (rtP W i s u : Int)) s ((q : Int) + (r : Int)) = fun u => (rtP W i (s + 1) u : Int)) := hst2
          have hwq : IntKind.i64.wrap ((q : Int) + (r : Int)) = (q : Int) + (r : Int) := wrap_inP _ (by omega) (by omega)
          have HFS : Hid (f ≤ s ∧ s < t) := ⟨hfs, hlt2⟩
          clear hq hst2 hqb hfs hst hlt2
          go_upto_region 8 with fail
          have Gd := grown_drew wr none
          have SSn : InB wr.drew g8 20000 (fun u => (rtP W i s u : Int)) ∧ wr.drew.cell? ⟨b, off + i * 3 + 2, none⟩ = some (.int .i64 (r : Nat)) := ⟨InB.keep hI.out Gd (by simp), (World.cell?_of_block (w := wr) (Gd.block b (Nat.lt_of_lt_of_le HBL.out hg.out.size) (by simp))).trans c2⟩
          refine wp_regionM (fun wz => InB wz g8 20000 (fun u => (rtP W i s u : Int)) ∧ wz.cell? ⟨b, off + i * 3 + 2, none⟩ = some (.int .i64 (r : Nat))) [11] #[false, false, false, false, false, false, false, false, false, false, false, false] rfl (by kernel_rfl) ?_
          have HWD : Hid (wr.grownBy wr.drew none) := Gd
          generalize wr.drew = wd at *
          have SS := SSn
          clear c0 c1 c2 Gd
          refine wpAnyY_takeF 0 (.slice (some ⟨g8, 0, none⟩) 20000 20000) rfl (by kernel_rfl) (fun _ _ _ h => h) rfl (by intro wz; go_simp; try rfl) ?_
          try simp only [List.getElem_toArray, List.getElem_cons_succ, List.getElem_cons_zero, Act.put, List.setIfInBounds_toArray, List.set_cons_zero, List.set_cons_succ]
          refine wpAnyY_takeF 1 (.int .i64 (s : Nat)) rfl (by kernel_rfl) (fun _ _ _ h => h) rfl (by intro wz; go_simp; try rfl) ?_
          try simp only [List.getElem_toArray, List.getElem_cons_succ, List.getElem_cons_zero, Act.put, List.setIfInBounds_toArray, List.set_cons_zero, List.set_cons_succ]
          refine wpAnyY_takeF 2 (.pointer (some ⟨g8, s, none⟩)) rfl (by kernel_rfl) (fun _ _ _ h => h) rfl (by intro wz; go_simp; try rfl) ?_
          try simp only [List.getElem_toArray, List.getElem_cons_succ, List.getElem_cons_zero, Act.put, List.setIfInBounds_toArray, List.set_cons_zero, List.set_cons_succ]
          refine wpAnyY_take [11] 3 (.int .i64 (q : Nat)) rfl (by kernel_rfl) (fun _ _ _ h => h) SS rfl (by rintro wz ⟨z1, z2⟩; have hc := InB.cell z1 HS40.out; rw [HQG.out] at hc; go_simp) ?_
          try simp only [List.getElem_toArray, List.getElem_cons_succ, List.getElem_cons_zero, Act.put, List.setIfInBounds_toArray, List.set_cons_zero, List.set_cons_succ]
          refine wpAnyY_takeF 4 (.slice (some ⟨b, off, none⟩) wn wc) rfl (by kernel_rfl) (fun _ _ _ h => h) rfl (by intro wz; go_simp; try rfl) ?_
          try simp only [List.getElem_toArray, List.getElem_cons_succ, List.getElem_cons_zero, Act.put, List.setIfInBounds_toArray, List.set_cons_zero, List.set_cons_succ]
          refine wpAnyY_takeF 5 (.int .i64 (i : Nat)) rfl (by kernel_rfl) (fun _ _ _ h => h) rfl (by intro wz; go_simp; try rfl) ?_
          try simp only [List.getElem_toArray, List.getElem_cons_succ, List.getElem_cons_zero, Act.put, List.setIfInBounds_toArray, List.set_cons_zero, List.set_cons_succ]
          refine wpAnyY_takeF 6 (.pointer (some ⟨b, off + i * 3, none⟩)) rfl (by kernel_rfl) (fun _ _ _ h => h) rfl (by intro wz; go_simp; try rfl) ?_
          try simp only [List.getElem_toArray, List.getElem_cons_succ, List.getElem_cons_zero, Act.put, List.setIfInBounds_toArray, List.set_cons_zero, List.set_cons_succ]
          refine wpAnyY_takeF 7 (.pointer (some ⟨b, off + i * 3 + 2, none⟩)) rfl (by kernel_rfl) (fun _ _ _ h => h) rfl (by intro wz; go_simp; try rfl) ?_
          try simp only [List.getElem_toArray, List.getElem_cons_succ, List.getElem_cons_zero, Act.put, List.setIfInBounds_toArray, List.set_cons_zero, List.set_cons_succ]
          refine wpAnyY_take [11] 8 (.int .i64 (r : Nat)) rfl (by kernel_rfl) (fun _ _ _ h => h) SS rfl (by rintro wz ⟨z1, z2⟩; go_simp) ?_
          try simp only [List.getElem_toArray, List.getElem_cons_succ, List.getElem_cons_zero, Act.put, List.setIfInBounds_toArray, List.set_cons_zero, List.set_cons_succ]
          refine wpAnyY_takeF 9 (.int .i64 ((q : Int) + (r : Int))) rfl (by kernel_rfl) (fun _ _ _ h => h) rfl (by intro wz; go_simp; try rfl) ?_
          try simp only [List.getElem_toArray, List.getElem_cons_succ, List.getElem_cons_zero, Act.put, List.setIfInBounds_toArray, List.set_cons_zero, List.set_cons_succ]
          refine wpAnyY_takeF 10 (.pointer (some ⟨g8, s, none⟩)) rfl (by kernel_rfl) (fun _ _ _ h => h) rfl (by intro wz; go_simp; try rfl) ?_
          try simp only [List.getElem_toArray, List.getElem_cons_succ, List.getElem_cons_zero, Act.put, List.setIfInBounds_toArray, List.set_cons_zero, List.set_cons_succ]
          refine wpAnyY_oneB 11 rfl (by kernel_rfl) (fun KK hKK => ?_)
          refine step_of_listR rfl (wpList_stI rfl (.tmp 37) (.tmp 36) rfl g8 20000 s _ ((q : Int) + (r : Int)) rfl rfl SSn.1 HS40.out ?_)
          intro w4 hi4 g4
          refine wpList_nil ?_
          show KK _ _
          refine hKK _ _ (fun _ h => absurd (by decide) h) ?_
          try simp only [List.getElem_toArray, List.getElem_cons_succ, List.getElem_cons_zero, Act.put, List.setIfInBounds_toArray, List.set_cons_zero, List.set_cons_succ]
          refine wpAnyY_doneB (by kernel_rfl) ?_ _
          (try simp only [Exit.then, Exit.inBlock])
          rw [HST.out] at hi4
          have HI4 : Hid _ := hi4
          have HG4 : Hid (w.grownBy w4 none) := grown_far (grown_trans hg.out HWD.out) g4 (fun q e => by cases e; exact Nat.le_of_eq HG8.out.symm)
          clear SS SSn hi4 g4 hI hg
          go_wp2
          exact ⟨⟨s + 1, by have := HFS.out; omega, HFS.out.2, by go_num, HI4.out, HG4.out⟩, by have := HFS.out; simp [intOf] <;> omega⟩
        · obtain rfl : t = s := by omega
          have lk2 : ¬ (t : Int) < (t : Int) := by omega
          have he := rtP_end W i
          rw [HWI.out] at he
          have hI9 : Hid (InB wr g8 20000 (fun u => (rtW W (i + 1) u : Int))) := by
            show InB _ _ _ _
            rw [← show rtP W i t = rtW W (i + 1) from he]
            exact hI.out
          clear hI he
          go_wp2
          exact ⟨⟨i + 1, HLT.out, by go_num, hI9.out, hg.out⟩, by have := HLT.out; simp [intOf] <;> omega⟩
    · obtain rfl : wn = i := by omega
      have lk : ¬ (wn : Int) < (wn : Int) := by omega
      go_wp2
      (try simp only [Exit.inBlock, Exit.then])
      refine HK2.out _ _ ?_
      clear HK2
      go_wp2
      first | go_ret | skip
      exact ⟨g8, rfl, hI.out, Nat.le_of_eq HG8.out.symm, hg.out⟩
end
end Go.Proofs.Ytnjdbbjhplebhaa
