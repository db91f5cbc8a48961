import Derived.Test.YtnimehkfnpepfaaWh23
import Derived.Test.YtnimehkfnpepfaaWh18
import Derived.Lib.MinMax
import Derived.Test.YtnimehkfnpepfaaWh6
namespace Go.Proofs.Ytnimehkfnpepfaa
open Go.RowKit
set_option maxRecDepth 100000
set_option linter.unusedVariables false
set_option linter.unusedSimpArgs false

section
def minI (x y : Int) : Int := if x ≤ y then x else y
def maxI (x y : Int) : Int := if x ≤ y then y else x
/-- where the rows begin that are left, behind j spans -/
def uqA (F : Nat → Int × Int) (lo : Int) : Nat → Int
  | 0 => lo
  | j + 1 => maxI (uqA F lo j) (F j).2
/-- the rows that the first j spans leave -/
def uqL (F : Nat → Int × Int) (lo hi : Int) : Nat → List (Int × Int)
  | 0 => []
  | j + 1 => if uqA F lo j < minI (F j).1 hi then uqL F lo hi j ++ [(uqA F lo j, minI (F j).1 hi)] else uqL F lo hi j
/-- what is not told within a span -/
def uqF (F : Nat → Int × Int) (lo hi : Int) (n : Nat) : List (Int × Int) := if uqA F lo n < hi then uqL F lo hi n ++ [(uqA F lo n, hi)] else uqL F lo hi n
/-- spans that rise and do not touch -/
def Rise (F : Nat → Int × Int) (n : Nat) : Prop := ∀ j, j < n → 0 ≤ (F j).1 ∧ (F j).1 < (F j).2 ∧ (0 < j → (F (j - 1)).2 < (F j).1)
/-- has a byte come? -/
def cvB (F : Nat → Int × Int) (i : Nat) : Nat → Bool
  | 0 => false
  | j + 1 => cvB F i j || decide ((F j).1 ≤ (i : Int) ∧ (i : Int) < (F j).2)
def exR (l : List (Int × Int)) (i : Nat) : List (Int × Int) := match l.getLast? with
  | some p => if p.2 = (i : Int) then l.dropLast ++ [(p.1, (i : Int) + 1)] else l ++ [((i : Int), (i : Int) + 1)]
  | none => l ++ [((i : Int), (i : Int) + 1)]
/-- the longest rows of those that have come (or have not) -/
def rwN (b : Nat → Bool) (come : Bool) : Nat → List (Int × Int)
  | 0 => []
  | i + 1 => if b i = come then exR (rwN b come i) i else rwN b come i
theorem rise_pre {F : Nat → Int × Int} {n : Nat} (h : Rise F (n + 1)) : Rise F n := fun j hj => h j (by omega)
theorem uqA_rise {F : Nat → Int × Int} : ∀ n, Rise F n → 0 ≤ uqA F 0 n ∧ (0 < n → uqA F 0 n = (F (n - 1)).2) := by
  intro n
  induction n with
  | zero => intro _; exact ⟨by show (0 : Int) ≤ 0; omega, fun h => absurd h (by omega)⟩
  | succ n ih =>
    intro h
    obtain ⟨h1, h2⟩ := ih (rise_pre h)
    obtain ⟨k1, k2, k3⟩ := h n (by omega)
    show 0 ≤ maxI (uqA F 0 n) (F n).2 ∧ (0 < n + 1 → maxI (uqA F 0 n) (F n).2 = (F (n + 1 - 1)).2)
    have e : maxI (uqA F 0 n) (F n).2 = (F n).2 := by
      unfold maxI
      by_cases hn : 0 < n
      · rw [h2 hn, if_pos (by have := k3 hn; omega)]
      · obtain rfl : n = 0 := by omega
        rw [if_pos (by show (0 : Int) ≤ _; omega)]
    rw [e]
    exact ⟨by omega, fun _ => by rw [Nat.add_sub_cancel]⟩
/-- the next span begins behind what was told -/
theorem uqA_next {F : Nat → Int × Int} {n : Nat} (h : Rise F (n + 1)) : uqA F 0 n ≤ (F n).1 ∧ uqA F 0 (n + 1) = (F n).2 ∧ (0 < n → uqA F 0 n < (F n).1) := by
  obtain ⟨k1, k2, k3⟩ := h n (by omega)
  obtain ⟨h1, h2⟩ := uqA_rise n (rise_pre h)
  obtain ⟨h3, h4⟩ := uqA_rise (n + 1) h
  refine ⟨?_, by have := h4 (by omega); rw [Nat.add_sub_cancel] at this; exact this, fun hn => by rw [h2 hn]; exact k3 hn⟩
  by_cases hn : 0 < n
  · rw [h2 hn]; have := k3 hn; omega
  · obtain rfl : n = 0 := by omega
    exact k1
theorem cv_hi {F : Nat → Int × Int} {i : Nat} : ∀ n, Rise F n → uqA F 0 n ≤ (i : Int) → cvB F i n = false := by
  intro n
  induction n with
  | zero => intro _ _; rfl
  | succ n ih =>
    intro h hi
    have hx := uqA_next h
    obtain ⟨k1, k2, k3⟩ := h n (by omega)
    show (cvB F i n || _) = false
    rw [ih (rise_pre h) (by omega), decide_eq_false (by omega)]; rfl
theorem cv_lo {F : Nat → Int × Int} {i n : Nat} (h : Rise F (n + 1)) (hi : (i : Int) < (F n).1) : cvB F i (n + 1) = cvB F i n := by
  show (cvB F i n || _) = _
  rw [decide_eq_false (by omega), Bool.or_false]
theorem cv_in {F : Nat → Int × Int} {i n : Nat} (h1 : (F n).1 ≤ (i : Int)) (h2 : (i : Int) < (F n).2) : cvB F i (n + 1) = true := by
  show (cvB F i n || _) = _
  rw [decide_eq_true ⟨h1, h2⟩, Bool.or_true]
theorem rwN_cong {b b' : Nat → Bool} {come : Bool} : ∀ n, (∀ i, i < n → b i = b' i) → rwN b come n = rwN b' come n := by
  intro n
  induction n with
  | zero => intro _; rfl
  | succ n ih => intro h; show (if b n = come then _ else _) = (if b' n = come then _ else _); rw [ih (fun i hi => h i (by omega)), h n (by omega)]
theorem rwN_skip {b : Nat → Bool} {come : Bool} (m : Nat) : ∀ n, m ≤ n → (∀ i, m ≤ i → i < n → b i ≠ come) → rwN b come n = rwN b come m := by
  intro n
  induction n with
  | zero => intro h _; obtain rfl : m = 0 := by omega
            rfl
  | succ n ih =>
    intro h hb
    by_cases e : m = n + 1
    · subst e; rfl
    · show (if b n = come then _ else _) = _
      rw [if_neg (hb n (by omega) (by omega))]
      exact ih (by omega) (fun i h1 h2 => hb i h1 (by omega))
theorem exR_new {l : List (Int × Int)} {i : Nat} (h : ∀ p, l.getLast? = some p → p.2 ≠ (i : Int)) : exR l i = l ++ [((i : Int), (i : Int) + 1)] := by
  unfold exR
  cases e : l.getLast? with
  | none => rfl
  | some p => show (if p.2 = (i : Int) then _ else _) = _; rw [if_neg (h p e)]
theorem exR_more {l : List (Int × Int)} {x : Int} {i : Nat} : exR (l ++ [(x, (i : Int))]) i = l ++ [(x, (i : Int) + 1)] := by
  unfold exR
  rw [List.getLast?_concat]
  show (if (i : Int) = (i : Int) then _ else _) = _
  rw [if_pos rfl, List.dropLast_concat]
/-- a row that grows -/
theorem rwN_row {b : Nat → Bool} {come : Bool} (m : Nat) (h0 : ∀ p, (rwN b come m).getLast? = some p → p.2 ≠ (m : Int)) : ∀ n, m < n → (∀ i, m ≤ i → i < n → b i = come) → rwN b come n = rwN b come m ++ [((m : Int), (n : Int))] := by
  intro n
  induction n with
  | zero => intro h; omega
  | succ n ih =>
    intro h hb
    show (if b n = come then _ else _) = _
    rw [if_pos (hb n (by omega) (by omega))]
    by_cases e : m = n
    · subst e
      rw [exR_new h0, Int.natCast_add]; rfl
    · rw [ih (by omega) (fun i h1 h2 => hb i h1 (by omega)), exR_more, Int.natCast_add]; rfl
theorem uqL_hi {F : Nat → Int × Int} {hi hi' : Int} : ∀ n, (∀ j, j < n → (F j).1 ≤ hi ∧ (F j).1 ≤ hi') → uqL F 0 hi n = uqL F 0 hi' n := by
  intro n
  induction n with
  | zero => intro _; rfl
  | succ n ih =>
    intro h
    obtain ⟨h1, h2⟩ := h n (by omega)
    show (if uqA F 0 n < minI (F n).1 hi then _ else _) = (if uqA F 0 n < minI (F n).1 hi' then _ else _)
    have e1 : minI (F n).1 hi = (F n).1 := if_pos h1
    have e2 : minI (F n).1 hi' = (F n).1 := if_pos h2
    rw [e1, e2, ih (fun j hj => h j (by omega))]
theorem rise_lt {F : Nat → Int × Int} {n : Nat} (h : Rise F (n + 1)) : ∀ j, j < n → (F j).2 < (F n).1 := by
  induction n with
  | zero => intro j hj; omega
  | succ n ih =>
    intro j hj
    obtain ⟨k1, k2, k3⟩ := h (n + 1) (by omega)
    have k3 := k3 (by omega)
    rw [Nat.add_sub_cancel] at k3
    by_cases e : j = n
    · subst e; exact k3
    · have := ih (rise_pre h) j (by omega)
      obtain ⟨k4, k5, _⟩ := h n (by omega)
      omega
/-- rows end where the spans begin -/
theorem uqL_last {F : Nat → Int × Int} {hi : Int} : ∀ n, Rise F n → ∀ p, (uqL F 0 hi n).getLast? = some p → 0 < n ∧ p.2 < uqA F 0 n := by
  intro n
  induction n with
  | zero => intro _ p hp; cases hp
  | succ n ih =>
    intro h p hp
    have hx := uqA_next h
    obtain ⟨k1, k2, k3⟩ := h n (by omega)
    refine ⟨by omega, ?_⟩
    rw [hx.2.1]
    have hp : (if uqA F 0 n < minI (F n).1 hi then uqL F 0 hi n ++ [(uqA F 0 n, minI (F n).1 hi)] else uqL F 0 hi n).getLast? = some p := hp
    by_cases e : uqA F 0 n < minI (F n).1 hi
    · rw [if_pos e, List.getLast?_concat] at hp
      have hp := Option.some.inj hp
      rw [← hp]
      show minI (F n).1 hi < _
      unfold minI
      by_cases e2 : (F n).1 ≤ hi
      · rw [if_pos e2]; exact k2
      · rw [if_neg e2]; omega
    · rw [if_neg e] at hp
      have := (ih (rise_pre h) p hp).2
      omega
/-- THE ROWS THAT SPANS LEAVE ARE THE LONGEST ROWS OF WHAT HAS NOT COME -/
theorem rows_un {F : Nat → Int × Int} : ∀ n, Rise F n → ∀ hi : Nat, rwN (fun i => cvB F i n) false hi = uqF F 0 (hi : Int) n := by
  intro n
  induction n with
  | zero =>
    intro _ hi
    show _ = (if (0 : Int) < (hi : Int) then [] ++ [((0 : Int), (hi : Int))] else [])
    by_cases h0 : 0 < hi
    · rw [if_pos (by omega), rwN_row (b := fun i => cvB F i 0) (come := false) 0 (fun p hp => by cases hp) hi h0 (fun i _ _ => rfl)]; rfl
    · obtain rfl : hi = 0 := by omega
      rfl
  | succ n ih =>
    intro h hi
    have hx := uqA_next h
    obtain ⟨k1, k2, k3⟩ := h n (by omega)
    have hp := rise_pre h
    obtain ⟨s0, hs0⟩ : ∃ s0 : Nat, (F n).1 = (s0 : Int) := ⟨(F n).1.toNat, by omega⟩
    obtain ⟨s1, hs1⟩ : ∃ s1 : Nat, (F n).2 = (s1 : Int) := ⟨(F n).2.toNat, by omega⟩
    -- up to where the span begins
    have A : ∀ m : Nat, m ≤ s0 → rwN (fun i => cvB F i (n + 1)) false m = uqF F 0 (m : Int) n := by
      intro m hm
      rw [← ih hp m]
      exact rwN_cong m (fun i hi => cv_lo h (by omega))
    have B : ∀ m : Nat, m ≤ s0 → uqF F 0 (m : Int) n = uqF F 0 (m : Int) (n + 1) := by
      intro m hm
      have e2 : ¬ uqA F 0 (n + 1) < (m : Int) := by rw [hx.2.1]; omega
      unfold uqF
      rw [if_neg e2]
      show _ = (if uqA F 0 n < minI (F n).1 (m : Int) then _ else _)
      have e : minI (F n).1 (m : Int) = (m : Int) := by
        unfold minI
        by_cases e : (F n).1 ≤ (m : Int)
        · rw [if_pos e]; omega
        · rw [if_neg e]
      rw [e]
    by_cases c1 : hi ≤ s0
    · rw [A hi c1, B hi c1]
    · -- the span itself
      have hS : ∀ m : Nat, s0 ≤ m → m ≤ s1 → rwN (fun i => cvB F i (n + 1)) false m = uqL F 0 (s0 : Int) (n + 1) := by
        intro m h1 h2
        rw [rwN_skip s0 m h1 (fun i j1 j2 => by rw [show cvB F i (n + 1) = true from cv_in (by omega) (by omega)]; decide), A s0 (Nat.le_refl _), B s0 (Nat.le_refl _)]
        unfold uqF
        rw [hx.2.1, if_neg (by omega)]
      have hst : ∀ m : Int, (s0 : Int) ≤ m → uqL F 0 (s0 : Int) (n + 1) = uqL F 0 m (n + 1) := by
        intro m hm
        refine uqL_hi (n + 1) (fun j hj => ?_)
        by_cases e : j = n
        · subst e; omega
        · have := rise_lt h j (by omega)
          obtain ⟨j1, j2, _⟩ := h j (by omega)
          omega
      by_cases c2 : hi ≤ s1
      · rw [hS hi (by omega) c2, hst (hi : Int) (by omega)]
        unfold uqF
        rw [hx.2.1, if_neg (by omega)]
      · rw [rwN_row s1 (fun p hp9 e => ?_) hi (by omega) (fun i j1 j2 => cv_hi (n + 1) h (by rw [hx.2.1]; omega)), hS s1 (by omega) (Nat.le_refl _), hst (hi : Int) (by omega)]
        · unfold uqF
          rw [hx.2.1, if_pos (by omega), hs1]
        · rw [hS s1 (by omega) (Nat.le_refl _)] at hp9
          have := (uqL_last (n + 1) h p hp9).2
          rw [hx.2.1] at this
          omega
end

section
theorem min_is (x y : Int) : min x y = minI x y := by unfold minI; by_cases h : x ≤ y; (rw [if_pos h]; omega); (rw [if_neg h]; omega)
theorem max_is (x y : Int) : max x y = maxI x y := by unfold maxI; by_cases h : x ≤ y; (rw [if_pos h]; omega); (rw [if_neg h]; omega)

set_option maxHeartbeats 16000000 in
theorem untold_any (q : Option Addr) (m d : Nat) (F : Nat → Int × Int) (x y : Int) (w : World) (hG : RdG w q m d F) (hm : m ≤ 100000) :
    Calls Try.prog 119 #[.slice q m d, .agg #[.int .i64 x, .int .i64 y]] w fun e w' => ∃ q' d', e = .returned (.slice q' (uqF F x y m).length d') ∧ OwGi w' w.heap.size q' (uqF F x y m).length d' (uqF F x y m) ∧ w.grownBy w' none := by
  have i2 := Try.info_sp
  have u2 := Try.underlying82
  obtain ⟨i0, hi, hz0, hz1, hz2⟩ := info_parts Try.info_pr
  have b3 := BxS.new w 82 #[.int .i64 x, .int .i64 y]
  have g3' := World.grownBy_alloc w (.cells #[.int .i64 x, .int .i64 y] 82) none
  generalize hw1 : w.alloc (.cells #[.int .i64 x, .int .i64 y] 82) = w1 at b3 g3'
  have hz19 : w1.heap.size = w.heap.size + 1 := by rw [← hw1]; simp
  obtain ⟨z0, z1⟩ := b3.cell2
  go_enter Try.func119, Try.ntmps119
  refine wp_seq_k fun K1 hK1 => ?_
  have HK1 : Hid _ := hK1
  clear hK1
  go_wp2
  refine HK1.out _ _ ?_
  clear HK1
  clear hw1
  refine wp_seq_k fun K1 hK1 => ?_
  have HK1 : Hid _ := hK1
  clear hK1
  go_wp2
  refine HK1.out _ _ ?_
  clear HK1
  refine wp_seq_k fun K1 hK1 => ?_
  have HK1 : Hid _ := hK1
  clear hK1
  go_wp2
  refine HK1.out _ _ ?_
  clear HK1
  clear z0 z1
  refine wp_seq_k fun K1 hK1 => ?_
  have HK1 : Hid _ := hK1
  clear hK1
  go_wp2
  go_loopw [14, 6, 5] (fun iv av sv wr => ∃ (j : Nat) (q1 : Option Addr) (m1 d1 : Nat), j ≤ m ∧ iv = .int .i64 j ∧ av = .int .i64 (uqA F x j) ∧ sv = .slice q1 m1 d1 ∧ OwGi wr w.heap.size q1 m1 d1 (uqL F x y j) ∧ m1 ≤ j ∧ BxS wr w.heap.size 82 #[.int .i64 x, .int .i64 y] ∧ (Value.slice q1 m1 d1).ownBlock ≠ some w.heap.size ∧ w1.grownBy wr none) (fun iv _ _ _ => m - (intOf iv).toNat)
  case atStart => exact ⟨0, none, 0, 0, Nat.zero_le _, rfl, rfl, rfl, OwGi.nil _ _, Nat.le_refl _, b3, (fun e => by cases e), World.grownBy.refl _ _⟩
  case round =>
    obtain ⟨j, q1, m1, d1, hj, rfl, rfl, rfl, hO, hmj, b3r, hq3, Gr⟩ := hrel
    by_cases hlt : j < m
    · have lj : (j : Int) < (m : Int) := by omega
      obtain ⟨b, off, rfl, hb, hc⟩ := ((hG.keep g3').keep Gr).at' (by omega)
      obtain ⟨p0, p1⟩ := hc j hlt
      have HA : Hid (uqA F x (j + 1) = maxI (uqA F x j) (F j).2) := rfl
      have HL : Hid (uqL F x y (j + 1) = if uqA F x j < minI (F j).1 y then uqL F x y j ++ [(uqA F x j, minI (F j).1 y)] else uqL F x y j) := rfl
      obtain ⟨f0, f1, hf⟩ : ∃ f0 f1, F j = (f0, f1) := ⟨_, _, rfl⟩
      rw [hf] at p0 p1 HA HL
      obtain ⟨A, hA⟩ : ∃ A, uqA F x j = A := ⟨_, rfl⟩
      obtain ⟨U, hU⟩ : ∃ U, uqL F x y j = U := ⟨_, rfl⟩
      rw [hA] at HA HL ⊢
      rw [hU] at HL hO
      clear hc hf hA hU
      have zr := Gr.size
      have z1 := g3'.size
      refine wp_seq_k fun K2 hK2 => ?_
      have HK2 : Hid _ := hK2
      clear hK2
      go_wp2
      refine HK2.out _ _ ?_
      clear HK2
      refine wp_seq_k fun K2 hK2 => ?_
      have HK2 : Hid _ := hK2
      clear hK2
      go_wp2
      refine HK2.out _ _ ?_
      clear HK2
      refine wp_seq_k fun K2 hK2 => ?_
      have HK2 : Hid _ := hK2
      clear hK2
      refine wp_block ?_
      refine wp_seq_k fun K3 hK3 => ?_
      have HK3 : Hid _ := hK3
      clear hK3
      have bn0 := BxS.new wr 82 #[.int .i64 0, .int .i64 0]
      have gn0 := World.grownBy_alloc wr (.cells #[.int .i64 0, .int .i64 0] 82) none
      generalize hw2 : wr.alloc (.cells #[.int .i64 0, .int .i64 0] 82) = w2 at bn0 gn0
      have s0 : True := trivial
      go_wp2_with (have _t := s0; clear s0; refine wpList_stX _ rfl _ (.tmp 8) (.tmp 17) rfl wr.heap.size _ _ rfl rfl bn0 i2 rfl (by simp [Value.oneCell']) ?_; intro w3 b83 u3)
      have G3 : wr.grownBy w3 none := grown_far gn0 u3 (fun z e => by have e := Option.some.inj e; omega)
      obtain ⟨g8, hg8⟩ : ∃ g8, wr.heap.size = g8 := ⟨_, rfl⟩
      rw [hg8] at b83 ⊢
      have l8 := b83.lt
      clear u3 bn0 gn0 hw2 p0 p1
      refine HK3.out _ _ ?_
      clear HK3
      have b33 := b3r.keep G3 (by simp)
      obtain ⟨z0, z1'⟩ := b33.cell2
      obtain ⟨y0, y1⟩ := b83.cell2
      refine wp_seq_k fun K3 hK3 => ?_
      have HK3 : Hid _ := hK3
      clear hK3
      refine wp_seq_k fun K4 hK4 => ?_
      have HK4 : Hid _ := hK4
      clear hK4
      have bn9 := BxS.new w3 82 #[.int .i64 0, .int .i64 0]
      have gn9 := World.grownBy_alloc w3 (.cells #[.int .i64 0, .int .i64 0] 82) none
      generalize hw4 : w3.alloc (.cells #[.int .i64 0, .int .i64 0] 82) = w4 at bn9 gn9
      have s0 : True := trivial
      go_wp2_with (have _t := s0; clear s0; refine wpList_stX _ rfl _ (.tmp 9) (.tmp 24) rfl w3.heap.size _ _ rfl rfl bn9 i2 rfl (by simp [Value.oneCell']) ?_; intro w5 b95 u5)
      rw [min_is f0 y] at b95 ⊢
      refine HK4.out _ _ ?_
      clear HK4
      have G5 : w3.grownBy w5 none := grown_far gn9 u5 (fun z e => by have e := Option.some.inj e; omega)
      obtain ⟨g9, hg9⟩ : ∃ g9, w3.heap.size = g9 := ⟨_, rfl⟩
      rw [hg9] at b95 ⊢
      clear u5 bn9 gn9 hw4 z0 z1' y0 y1
      have G35 := grown_trans G3 G5
      have b35 := b3r.keep G35 (by simp)
      have b85 := b83.keep G5 (by simp)
      have hO5 := hO.keep G35
      obtain ⟨x0, x1⟩ := b95.cell2
      obtain ⟨mn, hmn⟩ : ∃ mn, minI f0 y = mn := ⟨_, rfl⟩
      rw [hmn] at HL x1 b95 ⊢
      clear hmn
      by_cases hpu : A < mn
      · rw [if_pos hpu] at HL
        have bA := BxS.new w5 82 #[.int .i64 A, .int .i64 mn]
        have yA := World.grownBy_alloc w5 (.cells #[.int .i64 A, .int .i64 mn] 82) none
        generalize hwA : w5.alloc (.cells #[.int .i64 A, .int .i64 mn] 82) = wA at bA yA
        have hOA := hO5.keep yA
        have s0 : True := trivial
        go_wp2_with (at_builtin; have _t := s0; clear s0; refine wpList_apS wA rfl _ _ 24 82 i0 (.agg #[.int .i64 0, .int .i64 0]) 2 16 Try.underlying24 hi hz0 hz1 hz2 rfl (by decide) rfl (.slice q1 m1 d1) m1 (flG (giF U) m1) rfl hOA.own ⟨w5.heap.size, 0, none⟩ 1 1 [.int .i64 A, .int .i64 mn] rfl rfl bA.newsA (by intro u hu; simp only [List.mem_cons, List.not_mem_nil, or_false] at hu; rcases hu with rfl | rfl <;> rfl) (by decide) (by unfold maxLen; omega) (by omega) ?_; intro gx cx w8 hor u8 hO8)
        try simp only [Exit.then]
        refine HK3.out _ _ ?_
        clear HK3
        rw [← giF_push U (A, mn) m1 hO.len] at hO8
        have zA := yA.size
        have z5 := G35.size
        have hO9 : OwGi w8 w.heap.size (some ⟨gx, 0, none⟩) (m1 + 1) cx (U ++ [(A, mn)]) := ⟨hO8, by rw [List.length_append, hO.len]; rfl, fun g e => by
          have e : gx = g := Option.some.inj e
          subst e
          rcases hor with e | e
          · exact hO.new _ e
          · omega⟩
        have hgx3 : (Value.slice (some ⟨gx, 0, none⟩) (m1 + 1) cx).ownBlock ≠ some w.heap.size := fun e => by
          have e : gx = w.heap.size := Option.some.inj e
          subst e
          rcases hor with e | e
          · exact hq3 e
          · omega
        have hlw : ∀ z, (Value.slice q1 m1 d1).ownBlock = some z → w1.heap.size ≤ z := fun z e => by
          have h1 := hO.new z e
          by_cases e2 : z = w.heap.size
          · subst e2; exact absurd e hq3
          · have := hz19
            omega
        have b38 := (b35.keep yA (by simp)).keep u8 (fun e => hq3 e.symm)
        have b88 := (b85.keep yA (by simp)).keep u8 (fun e => by have := hO.lt e.symm; omega)
        have G8 : w1.grownBy w8 none := grown_far (grown_trans (grown_trans Gr G35) yA) u8 hlw
        obtain ⟨y0, y1⟩ := b88.cell2
        have HOO : Hid _ := hO9
        go_wp2
        rw [max_is A f1]
        try simp only [Exit.inBlock, Exit.then]
        refine HK2.out _ _ ?_
        clear HK2
        go_wp2
        go_roundw
        case rel =>
          refine ⟨j + 1, (some ⟨gx, 0, none⟩), (m1 + 1), cx, by omega, by go_num, by rw [HA.out], rfl, ?_, by omega, b38, hgx3, G8⟩
          rw [HL.out]
          exact HOO.out
        case measure => simp [intOf] <;> omega
      · rw [if_neg hpu] at HL
        go_wp2
        try simp only [Exit.then]
        refine HK3.out _ _ ?_
        clear HK3
        obtain ⟨y0, y1⟩ := b85.cell2
        have HOO : Hid _ := hO5
        go_wp2
        rw [max_is A f1]
        try simp only [Exit.inBlock, Exit.then]
        refine HK2.out _ _ ?_
        clear HK2
        go_wp2
        go_roundw
        case rel =>
          refine ⟨j + 1, q1, m1, d1, by omega, by go_num, by rw [HA.out], rfl, ?_, by omega, b35, hq3, (grown_trans Gr G35)⟩
          rw [HL.out]
          exact HOO.out
        case measure => simp [intOf] <;> omega
    · obtain rfl : j = m := by omega
      have lj : ¬ (j : Int) < (j : Int) := by omega
      go_wp2
      try simp only [Exit.inBlock, Exit.then]
      refine HK1.out _ _ ?_
      clear HK1
      obtain ⟨z0, z1'⟩ := b3r.cell2
      have HFF : Hid (uqF F x y j = if uqA F x j < y then uqL F x y j ++ [(uqA F x j, y)] else uqL F x y j) := rfl
      obtain ⟨A, hA⟩ : ∃ A, uqA F x j = A := ⟨_, rfl⟩
      obtain ⟨U, hU⟩ : ∃ U, uqL F x y j = U := ⟨_, rfl⟩
      rw [hA, hU] at HFF
      rw [hA] at ⊢
      rw [hU] at hO
      rw [HFF.out]
      clear hA hU HFF
      have zr := Gr.size
      have z1 := g3'.size
      by_cases hpu : A < y
      · rw [if_pos hpu]
        have bA := BxS.new wr 82 #[.int .i64 A, .int .i64 y]
        have yA := World.grownBy_alloc wr (.cells #[.int .i64 A, .int .i64 y] 82) none
        generalize hwA : wr.alloc (.cells #[.int .i64 A, .int .i64 y] 82) = wA at bA yA
        have hOA := hO.keep yA
        have s0 : True := trivial
        go_wp2_with (at_builtin; have _t := s0; clear s0; refine wpList_apS wA rfl _ _ 24 82 i0 (.agg #[.int .i64 0, .int .i64 0]) 2 16 Try.underlying24 hi hz0 hz1 hz2 rfl (by decide) rfl (.slice q1 m1 d1) m1 (flG (giF U) m1) rfl hOA.own ⟨wr.heap.size, 0, none⟩ 1 1 [.int .i64 A, .int .i64 y] rfl rfl bA.newsA (by intro u hu; simp only [List.mem_cons, List.not_mem_nil, or_false] at hu; rcases hu with rfl | rfl <;> rfl) (by decide) (by unfold maxLen; omega) (by omega) ?_; intro gx cx w8 hor u8 hO8)
        try go_ret
        rw [← giF_push U (A, y) m1 hO.len] at hO8
        have zA := yA.size
        have hl9 : (U ++ [(A, y)]).length = m1 + 1 := by rw [List.length_append, hO.len]; rfl
        rw [hl9]
        have hlw : ∀ z, (Value.slice q1 m1 d1).ownBlock = some z → w.heap.size ≤ z := fun z e => hO.new z e
        exact ⟨some ⟨gx, 0, none⟩, cx, rfl, ⟨hO8, hl9, fun g e => by
          have e : gx = g := Option.some.inj e
          subst e
          rcases hor with e | e
          · exact hO.new _ e
          · omega⟩, grown_far (grown_trans (grown_trans g3' Gr) yA) u8 hlw⟩
      · rw [if_neg hpu]
        go_wp2
        try go_ret
        rw [hO.len]
        exact ⟨q1, d1, rfl, hO, grown_trans g3' Gr⟩
end

section
/-- behind the last byte that spans tell -/
def rcN (F : Nat → Int × Int) (m : Nat) : Int := if m = 0 then 0 else (F (m - 1)).2
/-- have all bytes come? -/
def haB (F : Nat → Int × Int) (si : Int) (m : Nat) : Bool := decide ((uqF F 0 si m).length = 0)

set_option maxHeartbeats 8000000 in
theorem reach_any (q : Option Addr) (m d : Nat) (F : Nat → Int × Int) (w : World) (hG : RdG w q m d F) (hm : m ≤ 8796093021952) :
    Calls Try.prog 118 #[.slice q m d] w fun e w' => e = .returned (.int .i64 (rcN F m)) ∧ w' = w := by
  by_cases h0 : m = 0
  · subst h0
    have HX : Hid (rcN F 0 = 0) := rfl
    rw [HX.out]
    go_enter Try.func118, Try.ntmps118
    go_wp2
    try go_ret
    exact ⟨rfl, rfl⟩
  · have HX : Hid (rcN F m = (F (m - 1)).2) := if_neg h0
    rw [HX.out]
    obtain ⟨b, off, rfl, hb, hc⟩ := hG.at' (by omega)
    obtain ⟨p0, p1⟩ := hc (m - 1) (by omega)
    obtain ⟨mm, hmm⟩ : ∃ mm, m - 1 = mm := ⟨_, rfl⟩
    rw [hmm] at p1 ⊢
    have hw : IntKind.i64.wrap ((m : Int) - 1) = (mm : Int) := by rw [show (m : Int) - 1 = (mm : Int) by omega]; exact wrap_i64_in _ (by omega) (by omega)
    have l1 : mm < m := by omega
    have l2 : (mm : Int) < (m : Int) := by omega
    have l3 : ¬ (m : Int) = 0 := by omega
    have l4 : ((m : Int) == 0) = false := beq_eq_false_iff_ne.2 l3
    have HMM : Hid _ := hmm
    clear hmm hc p0
    go_enter Try.func118, Try.ntmps118
    go_wp2
    try go_ret
    exact ⟨rfl, rfl⟩

set_option maxHeartbeats 8000000 in
theorem hasAll_any (id : Int) (kn : Bool) (nm : ByteArray) (si : Int) (en : Bool) (la su : Int) (q : Option Addr) (m d : Nat) (a : Option Addr) (n c : Nat) (st ti pa tr li : Int) (F : Nat → Int × Int) (w : World) (hG : RdG w q m d F) (hm : m ≤ 100000) :
    Calls Try.prog 120 #[.agg (tkA id kn nm si en la su (.slice q m d) (.slice a n c) st ti pa tr li)] w fun e w' => e = .returned (.bool (haB F si m)) ∧ w.grownBy w' none := by
  have b1 := BxS.new w 48 #[.int .i64 id, .bool kn, .string nm, .int .i64 si, .bool en, .int .i64 la, .int .i64 su, .slice q m d, .slice a n c, .int .i64 st, .int .i64 ti, .int .i64 pa, .int .i64 tr, .int .i64 li]
  have y1 := World.grownBy_alloc w (.cells #[.int .i64 id, .bool kn, .string nm, .int .i64 si, .bool en, .int .i64 la, .int .i64 su, .slice q m d, .slice a n c, .int .i64 st, .int .i64 ti, .int .i64 pa, .int .i64 tr, .int .i64 li] 48) none
  unfold tkA
  generalize hw1 : w.alloc (.cells #[.int .i64 id, .bool kn, .string nm, .int .i64 si, .bool en, .int .i64 la, .int .i64 su, .slice q m d, .slice a n c, .int .i64 st, .int .i64 ti, .int .i64 pa, .int .i64 tr, .int .i64 li] 48) = w1 at b1 y1
  obtain ⟨e0, e1, e2, e3, e4, e5, e6, e7, e8, e9, e10, e11, e12, e13⟩ := (b1).cell14
  have HX : Hid (haB F si m = decide ((uqF F 0 si m).length = 0)) := rfl
  rw [HX.out]
  have s0 : True := trivial
  go_enter Try.func120, Try.ntmps120
  refine wp_seq_k fun K1 hK1 => ?_
  have HK1 : Hid _ := hK1
  clear hK1
  go_wp2
  refine HK1.out _ _ ?_
  clear HK1
  refine wp_seq_k fun K1 hK1 => ?_
  have HK1 : Hid _ := hK1
  clear hK1
  go_wp2_with (go_at_call 119; have _t := s0; clear s0; refine (untold_any q m d F 0 si w1 (hG.keep y1) hm).mono ?_; rintro e w2 ⟨q2, d2, rfl, hO2, y2⟩)
  refine HK1.out _ _ ?_
  clear HK1
  go_wp2
  try go_ret
  refine ⟨?_, grown_trans y1 y2⟩
  have hx : ((((uqF F 0 si m).length : Nat) : Int) == 0) = decide ((uqF F 0 si m).length = 0) := by
    by_cases e : (uqF F 0 si m).length = 0
    · rw [decide_eq_true e, e]; rfl
    · rw [decide_eq_false e]; exact beq_eq_false_iff_ne.2 (by omega)
  rw [← hx]
  rfl

/-- in which stage a taker may be -/
def tsB (st : Int) (kn ha : Bool) : Bool := if st = 0 ∨ st = 4 then true else if st = 3 then (kn && ha) else false
set_option maxHeartbeats 8000000 in
theorem tkStage_any (id : Int) (kn : Bool) (nm : ByteArray) (si : Int) (en : Bool) (la su : Int) (q : Option Addr) (m d : Nat) (a : Option Addr) (n c : Nat) (st ti pa tr li : Int) (F : Nat → Int × Int) (w : World) (hG : RdG w q m d F) (hm : m ≤ 100000) :
    Calls Try.prog 103 #[.agg (tkA id kn nm si en la su (.slice q m d) (.slice a n c) st ti pa tr li)] w fun e w' => e = .returned (.bool (tsB st kn (haB F si m))) ∧ w.grownBy w' none := by
  have b1 := BxS.new w 48 #[.int .i64 id, .bool kn, .string nm, .int .i64 si, .bool en, .int .i64 la, .int .i64 su, .slice q m d, .slice a n c, .int .i64 st, .int .i64 ti, .int .i64 pa, .int .i64 tr, .int .i64 li]
  have y1 := World.grownBy_alloc w (.cells #[.int .i64 id, .bool kn, .string nm, .int .i64 si, .bool en, .int .i64 la, .int .i64 su, .slice q m d, .slice a n c, .int .i64 st, .int .i64 ti, .int .i64 pa, .int .i64 tr, .int .i64 li] 48) none
  unfold tkA
  generalize hw1 : w.alloc (.cells #[.int .i64 id, .bool kn, .string nm, .int .i64 si, .bool en, .int .i64 la, .int .i64 su, .slice q m d, .slice a n c, .int .i64 st, .int .i64 ti, .int .i64 pa, .int .i64 tr, .int .i64 li] 48) = w1 at b1 y1
  obtain ⟨e0, e1, e2, e3, e4, e5, e6, e7, e8, e9, e10, e11, e12, e13⟩ := (b1).cell14
  have kH := fun wz (k : RdG wz q m d F) => hasAll_any id kn nm si en la su q m d a n c st ti pa tr li F wz k hm
  unfold tkA at kH
  by_cases h0 : st = 0
  · subst h0
    have HX : Hid (tsB 0 kn (haB F si m) = true) := rfl
    rw [HX.out]
    go_enter Try.func103, Try.ntmps103
    go_wp2
    try go_ret
    exact ⟨rfl, y1⟩
  · by_cases h4 : st = 4
    · subst h4
      have HX : Hid (tsB 4 kn (haB F si m) = true) := rfl
      rw [HX.out]
      go_enter Try.func103, Try.ntmps103
      go_wp2
      try go_ret
      exact ⟨rfl, y1⟩
    · by_cases h3 : st = 3
      · subst h3
        have HX : Hid (tsB 3 kn (haB F si m) = (kn && haB F si m)) := rfl
        rw [HX.out]
        generalize haB F si m = hb at kH
        have s0 : True := trivial
        cases kn with
        | false =>
          go_enter Try.func103, Try.ntmps103
          go_wp2
          try go_ret
          exact ⟨rfl, y1⟩
        | true =>
          go_enter Try.func103, Try.ntmps103
          go_wp2_with (go_at_call 120; have _t := s0; clear s0; refine (kH w1 (hG.keep y1)).mono ?_; rintro e w2 ⟨rfl, y2⟩)
          try go_ret
          exact ⟨rfl, grown_trans y1 y2⟩
      · have HX : Hid (tsB st kn (haB F si m) = false) := by show _ = _; unfold tsB; rw [if_neg (by omega), if_neg h3]
        rw [HX.out]
        have b0 : (st == 0) = false := beq_eq_false_iff_ne.2 h0
        have b3 : (st == 3) = false := beq_eq_false_iff_ne.2 h3
        have b4 : (st == 4) = false := beq_eq_false_iff_ne.2 h4
        go_enter Try.func103, Try.ntmps103
        go_wp2
        try go_ret
        exact ⟨rfl, y1⟩
end
end Go.Proofs.Ytnimehkfnpepfaa
