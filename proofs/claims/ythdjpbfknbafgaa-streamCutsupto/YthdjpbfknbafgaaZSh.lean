import Derived.Test.YthdjpbfknbafgaaRows
import Derived.OpenShut
import Derived.SizedLaws
import Derived.Deep.Slices
namespace Go.Proofs.Ythdjpbfknbafgaa
open Go.ChangeShapes Go.WideShapes
set_option linter.unusedVariables false

/-- a type's shape, as a reading goes through it: fields in a row (a struct, an array), slices, numbers; mt: what a reading tells of cells; n: how much is read -/
structure Sh where
  agg : Bool
  mt : World → Bool → List Value → Nat → Prop
def sumN (F : Nat → Nat) : Nat → Nat
  | 0 => 0
  | n + 1 => sumN F n + F n
def Sh.met (w : World) (full : Bool) (s : Sh) (cs : List Value) (n : Nat) : Prop := s.mt w full cs n
def Sh.bool : Sh := ⟨false, fun w full cs n => n = 1 ∧ ∃ b, cs = [.bool b]⟩
def Sh.int (k : IntKind) : Sh := ⟨false, fun w full cs n => n = 1 ∧ ∃ z, cs = [.int k z] ∧ (Lit.int k z).wf = true⟩
def Sh.str : Sh := ⟨false, fun w full cs n => ∃ s : ByteArray, cs = [.string s] ∧ n = s.size + 1 ∧ s.size ≤ maxLen ∧ (full = true → s.size ≤ reachBytes)⟩
def Sh.slice (c b : Nat) (e : Sh) : Sh := ⟨false, fun w full cs n => (n = 1 ∧ cs = [.slice none 0 0]) ∨
      ∃ (a : Addr) (len cap : Nat) (F : Nat → Nat) (C : Nat → List Value), cs = [.slice (some a) len cap] ∧ n = sumN F cap + 1 ∧ len ≤ cap ∧ cap ≤ maxLen ∧ (full = true → cap * b ≤ reachBytes) ∧
        ∀ i, i < cap → (C i).length = c ∧ (∀ j, j < c → w.cell? (a.add (i * c + j)) = (C i)[j]?) ∧ e.mt w full (C i) (F i)⟩
def Sh.fend : Sh := ⟨true, fun w full cs n => cs = [] ∧ n = 1⟩
def Sh.fcons (c : Nat) (s r : Sh) : Sh := ⟨true, fun w full cs n => ∃ n1 n2, n = n1 + n2 ∧ s.mt w full (cs.take c) n1 ∧ r.mt w full (cs.drop c) n2⟩
def Sh.rep (c : Nat) (s : Sh) : Nat → Sh
  | 0 => .fend
  | n + 1 => .fcons c s (Sh.rep c s n)
def fieldsOf (P : Program) (g : TypeId → Option Sh) (top : Nat) : Nat → List Field → Option Sh
  | off, [] => if off = top then some .fend else none
  | off, f :: r => if f.offset = off then (g f.type).bind fun s => (fieldsOf P g top (off + P.cellsOf f.type) r).map fun q => .fcons (P.cellsOf f.type) s q else none
def shapeOf (P : Program) : Nat → TypeId → Option Sh
  | 0, _ => none
  | f + 1, t => match P.underlying t with
    | some .bool => some .bool
    | some (.int k) => some (.int k)
    | some .string => some .str
    | some (.slice e) => (shapeOf P f e).map fun s => .slice (P.cellsOf e) (P.bytesOf e) s
    | some (.struct fs) => fieldsOf P (shapeOf P f) (P.cellsOf t) 0 fs.toList
    | some (.array n e) => if P.cellsOf t = n * P.cellsOf e then (shapeOf P f e).map fun s => Sh.rep (P.cellsOf e) s n else none
    | _ => none
section
variable {H : Type} {enc : TypeId × Value → H} {P : Program} {w : World} {full : Bool}
theorem bulkAll_append (l r : List (DataW H)) : Rows.uptoBulkAll (l ++ r) = Rows.uptoBulkAll l + Rows.uptoBulkAll r := by
  induction l with
  | nil => simp [Rows.uptoBulkAll]
  | cons d l ih => simp only [List.cons_append, Rows.uptoBulkAll, ih]; omega
theorem bulkAll_range (D : Nat → DataW H) (n : Nat) : Rows.uptoBulkAll ((List.range n).map D) = sumN (fun i => Rows.uptoBulk (D i)) n := by
  induction n with
  | zero => rfl
  | succ n ih => rw [List.range_succ, List.map_append, bulkAll_append, ih]; simp [sumN, Rows.uptoBulkAll]
theorem weights_all {e : TypeId} {n : Nat} {d : DataW H} (hn : n ∈ d.weights P e) : ∀ {l : List (DataW H)}, d ∈ l → n ∈ DataW.weightsAll P e l
  | [], h => by cases h
  | x :: l, h => by
    simp only [DataW.weightsAll, List.mem_append]
    rcases List.mem_cons.1 h with rfl | h
    · exact .inl hn
    · exact .inr (weights_all hn h)
theorem fields_met {g : TypeId → Option Sh} {cs : List Value} {m : Nat}
    (hg : ∀ t s, g t = some s → ∀ cs' d ps, DataW.trod enc P w 0 (fun _ => true) true m t cs' = some (d, ps) → (full = true → ∀ n ∈ d.weights P t, n ≤ reachBytes) → s.met w full cs' (Rows.uptoBulk d)) :
    ∀ (fl : List Field) (off : Nat) (s : Sh) (xs : List (DataW H × List MemPlace)), fieldsOf P g cs.length off fl = some s → xs.length = fl.length →
      (∀ (i : Nat) (f : Field), fl[i]? = some f → DataW.trod enc P w 0 (fun _ => true) true m f.type ((cs.drop f.offset).take (P.cellsOf f.type)) = xs[i]?) →
      (full = true → ∀ n ∈ DataW.weightsEach P (fl.map (·.type)) (xs.map (·.1)), n ≤ reachBytes) → s.met w full (cs.drop off) (Rows.uptoBulkAll (xs.map (·.1)) + 1)
  | [], off, s, xs, hs, hl, hx, hw => by
    unfold fieldsOf at hs
    split at hs
    · rename_i ho
      obtain rfl : xs = [] := List.eq_nil_of_length_eq_zero hl
      cases hs
      exact ⟨by simp [ho], rfl⟩
    · cases hs
  | f :: r, off, s, [], hs, hl, hx, hw => by simp at hl
  | f :: r, off, s, x :: xs, hs, hl, hx, hw => by
    unfold fieldsOf at hs
    split at hs
    case isFalse => cases hs
    rename_i ho
    obtain ⟨s1, h1, h2⟩ := Option.bind_eq_some_iff.1 hs
    obtain ⟨q, h3, rfl⟩ := Option.map_eq_some_iff.1 h2
    have k0 := hx 0 f rfl
    refine ⟨Rows.uptoBulk x.1, Rows.uptoBulkAll (xs.map (·.1)) + 1, ?_, ?_, ?_⟩
    · simp only [List.map_cons, Rows.uptoBulkAll]; omega
    · rw [ho] at k0
      refine hg f.type s1 h1 _ x.1 x.2 k0 fun hf n hn => hw hf n ?_
      simp only [List.map_cons, DataW.weightsEach, List.mem_append]
      exact .inl hn
    · have := fields_met hg r (off + P.cellsOf f.type) q xs h3 (by simpa using hl) (fun i f' hf => hx (i + 1) f' hf) (fun hf n hn => hw hf n (by
        simp only [List.map_cons, DataW.weightsEach, List.mem_append]; exact .inr hn))
      rw [List.drop_drop]
      exact this
theorem rep_met {c : Nat} {s : Sh} {cs : List Value} {m : Nat} {e : TypeId}
    (hg : ∀ cs' d ps, DataW.trod enc P w 0 (fun _ => true) true m e cs' = some (d, ps) → (full = true → ∀ n ∈ d.weights P e, n ≤ reachBytes) → s.met w full cs' (Rows.uptoBulk d)) :
    ∀ (k i0 : Nat) (xs : List (DataW H × List MemPlace)), cs.length = (i0 + k) * c → xs.length = k →
      (∀ i, i < k → DataW.trod enc P w 0 (fun _ => true) true m e ((cs.drop ((i0 + i) * c)).take c) = xs[i]?) →
      (full = true → ∀ n ∈ DataW.weightsAll P e (xs.map (·.1)), n ≤ reachBytes) → (Sh.rep c s k).met w full (cs.drop (i0 * c)) (Rows.uptoBulkAll (xs.map (·.1)) + 1)
  | 0, i0, xs, hc, hl, hx, hw => by
    obtain rfl : xs = [] := List.eq_nil_of_length_eq_zero hl
    exact ⟨by simp [hc], rfl⟩
  | k + 1, i0, [], hc, hl, hx, hw => by simp at hl
  | k + 1, i0, x :: xs, hc, hl, hx, hw => by
    refine ⟨Rows.uptoBulk x.1, Rows.uptoBulkAll (xs.map (·.1)) + 1, ?_, ?_, ?_⟩
    · simp only [List.map_cons, Rows.uptoBulkAll]; omega
    · refine hg _ x.1 x.2 (hx 0 (by omega)) fun hf n hn => hw hf n ?_
      simp only [List.map_cons, DataW.weightsAll, List.mem_append]
      exact .inl hn
    · have := rep_met hg k (i0 + 1) xs (by rw [hc]; congr 1; omega) (by simpa using hl) (fun i hi => by
        have := hx (i + 1) (by omega)
        rw [show i0 + (i + 1) = i0 + 1 + i by omega] at this
        simpa using this) (fun hf n hn => hw hf n (by
        simp only [List.map_cons, DataW.weightsAll, List.mem_append]; exact .inr hn))
      rw [List.drop_drop]
      rw [show i0 * c + c = (i0 + 1) * c by rw [Nat.add_mul]; omega]
      exact this
theorem met_of_trod : ∀ (f : Nat) (t : TypeId) (s : Sh), shapeOf P f t = some s → ∀ (fuel : Nat) (cs : List Value) (d : DataW H) (ps : List MemPlace),
    DataW.trod enc P w 0 (fun _ => true) true fuel t cs = some (d, ps) → (full = true → ∀ n ∈ d.weights P t, n ≤ reachBytes) → s.met w full cs (Rows.uptoBulk d)
  | 0, t, s, hs, _, _, _, _, _, _ => by cases hs
  | f + 1, t, s, hs, fuel, cs, d, ps, h, hw => by
    unfold shapeOf at hs
    split at hs
    · rename_i hu
      cases hs
      obtain ⟨b, rfl, hx⟩ := DataW.trod_bool hu h
      cases hx
      exact ⟨rfl, b, rfl⟩
    · rename_i k hu
      cases hs
      obtain ⟨z, rfl, hx, hz⟩ := DataW.trod_int hu h
      cases hx
      exact ⟨rfl, z, rfl, hz⟩
    · rename_i hu
      cases hs
      obtain ⟨b, rfl, hx, hz⟩ := DataW.trod_string hu h
      cases hx
      have hb : b.data.toList.length = b.size := Array.length_toList
      refine ⟨b, rfl, by simp only [Rows.uptoBulk]; rw [hb], hz, fun hf => ?_⟩
      have := hw hf b.data.toList.length (by simp only [DataW.weights]; exact List.mem_singleton.2 rfl)
      rw [hb] at this
      exact this
    · rename_i e hu
      obtain ⟨s1, h1, rfl⟩ := Option.map_eq_some_iff.1 hs
      rcases Go.Deep.open_slice hu h with ⟨rfl, hx⟩ | ⟨a, len, cap, m, n, D, Pl, rfl, _, hl, hm, hmm, hx, hel⟩
      · cases hx
        exact .inl ⟨by simp [Rows.uptoBulk], rfl⟩
      · simp only [if_true] at hmm
        subst hmm
        cases hx
        have hall : (List.range len).map D ++ (List.range (m - len)).map (fun j => D (len + j)) = (List.range m).map D := by
          have e1 : m = len + (m - len) := by omega
          conv => rhs; rw [e1, List.range_add]
          simp [List.map_append, Function.comp_def]
        have hD : ∀ i, i < m → D i ∈ (List.range len).map D ∨ D i ∈ (List.range (m - len)).map (fun j => D (len + j)) := by
          intro i hi
          have : D i ∈ (List.range m).map D := List.mem_map.2 ⟨i, List.mem_range.2 hi, rfl⟩
          rw [← hall] at this
          exact List.mem_append.1 this
        have each : ∀ i, i < m → ∃ c : List Value, c.length = P.cellsOf e ∧ (∀ j, j < P.cellsOf e → w.cell? (a.add (i * P.cellsOf e + j)) = c[j]?) ∧ s1.met w full c (Rows.uptoBulk (D i)) := by
          intro i hi
          obtain ⟨c, g1, g2⟩ := hel i hi
          obtain ⟨_, g3, g4⟩ := World.cells?_some g1
          refine ⟨c, g3, fun j hj => ?_, met_of_trod f e s1 h1 n c (D i) (Pl i) g2 fun hf k hk => hw hf k ?_⟩
          · rw [← g4 j hj, Go.Deep.add_add]
          · simp only [DataW.weights, hu, List.mem_cons, List.mem_append]
            rcases hD i hi with q | q
            · exact .inr (.inl (weights_all hk q))
            · exact .inr (.inr (weights_all hk q))
        obtain ⟨C, hC⟩ := Go.Deep.choose_lt each
        refine .inr ⟨a, len, m, fun i => Rows.uptoBulk (D i), C, rfl, ?_, hl, hm, fun hf => ?_, hC⟩
        · simp only [Rows.uptoBulk]
          rw [← bulkAll_append, hall, bulkAll_range]
        · have := hw hf ((((List.range len).map D).length + ((List.range (m - len)).map (fun j => D (len + j))).length) * P.bytesOf e) (by
            simp only [DataW.weights, hu]; exact List.mem_cons_self)
          simp only [List.length_map, List.length_range] at this
          rw [show len + (m - len) = m by omega] at this
          exact this
    · rename_i fs hu
      obtain ⟨xs, n, hn, hx, hcl, hxl, hf⟩ := DataW.trod_struct hu h
      cases hx
      rw [← hcl] at hs
      have := fields_met (enc := enc) (P := P) (w := w) (full := full) (cs := cs) (m := n) (fun t' s' h' cs' d' ps' => met_of_trod f t' s' h' n cs' d' ps') fs.toList 0 s xs hs (by simpa using hxl) (fun i f' hf' => hf i f' (by simpa using hf')) (fun hfu k hk => hw hfu k (by simp only [DataW.weights, hu]; exact hk))
      simpa [Rows.uptoBulk] using this
    · rename_i n e hu
      split at hs
      case isFalse => cases hs
      rename_i hc
      obtain ⟨s1, h1, rfl⟩ := Option.map_eq_some_iff.1 hs
      obtain ⟨xs, m, hm, hx, hcl, hxl, hf⟩ := DataW.trod_array hu h
      cases hx
      have := rep_met (enc := enc) (P := P) (w := w) (full := full) (c := P.cellsOf e) (s := s1) (cs := cs) (m := m) (e := e) (fun cs' d' ps' => met_of_trod f e s1 h1 m cs' d' ps') n 0 xs (by rw [hcl, hc]; simp) hxl (fun i hi => by simpa using hf i hi) (fun hfu k hk => hw hfu k (by simp only [DataW.weights, hu]; exact hk))
      simpa [Rows.uptoBulk] using this
    · cases hs
/-- an argument -/
def Sh.shown (w : World) (full : Bool) (s : Sh) (v : Value) (n : Nat) : Prop := match s.agg with
  | true => ∃ cs, v = .agg cs ∧ s.met w full cs.toList n
  | false => s.met w full [v] n
theorem fields_agg {g : TypeId → Option Sh} {top : Nat} : ∀ {fl : List Field} {off : Nat} {s : Sh}, fieldsOf P g top off fl = some s → s.agg = true
  | [], off, s, h => by
    unfold fieldsOf at h
    split at h
    · cases h; rfl
    · cases h
  | f :: r, off, s, h => by
    unfold fieldsOf at h
    split at h
    · obtain ⟨s1, h1, h2⟩ := Option.bind_eq_some_iff.1 h
      obtain ⟨q, h3, rfl⟩ := Option.map_eq_some_iff.1 h2
      rfl
    · cases h
theorem rep_agg (c : Nat) (s : Sh) (n : Nat) : (Sh.rep c s n).agg = true := by
  cases n with
  | zero => rfl
  | succ n => rfl
theorem shown_agg {s : Sh} {cs : Array Value} {n : Nat} (hs : s.agg = true) (h : s.met w full cs.toList n) : s.shown w full (.agg cs) n := by
  unfold Sh.shown
  rw [hs]
  exact ⟨cs, rfl, h⟩
theorem shown_of {f : Nat} {t : TypeId} {s : Sh} (hs : shapeOf P f t = some s) {r : Reach} {base : Nat} {v : Value} {d : DataW H} {ps : List MemPlace} (hv : Value.okWide P w r base t v)
    (h : DataW.Trod enc P w 0 (fun _ => true) true t v d ps) (hw : full = true → ∀ n ∈ d.weights P t, n ≤ reachBytes) : s.shown w full v (Rows.uptoBulk d) := by
  obtain ⟨fuel, hf⟩ := h
  have hm := met_of_trod (full := full) f t s hs fuel _ d ps hf hw
  cases f with
  | zero => cases hs
  | succ f =>
    unfold shapeOf at hs
    split at hs
    · rename_i hu
      cases hs
      obtain ⟨b, rfl⟩ := okWide_bool hu hv
      exact hm
    · rename_i k hu
      cases hs
      obtain ⟨z, rfl⟩ := okWide_int hu hv
      exact hm
    · rename_i hu
      cases hs
      obtain ⟨z, rfl⟩ := okWide_string hu hv
      exact hm
    · rename_i e hu
      obtain ⟨s1, h1, rfl⟩ := Option.map_eq_some_iff.1 hs
      obtain ⟨a, l, c, rfl⟩ := okWide_slice hu hv
      exact hm
    · rename_i fs hu
      obtain ⟨cs, rfl, _⟩ := okWide_struct hu hv
      exact shown_agg (fields_agg hs) hm
    · rename_i n e hu
      split at hs
      case isFalse => cases hs
      obtain ⟨s1, h1, rfl⟩ := Option.map_eq_some_iff.1 hs
      have hv2 := hv
      simp only [Value.okWide, hu] at hv2
      obtain ⟨cs, rfl, _⟩ := hv2
      exact shown_agg (rep_agg _ _ _) hm
    · cases hs
end
end Go.Proofs.Ythdjpbfknbafgaa
