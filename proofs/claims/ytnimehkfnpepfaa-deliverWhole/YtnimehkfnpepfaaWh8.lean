import Derived.Test.YtnimehkfnpepfaaRows
import Derived.WalkSpells
import Derived.WalkLawsBesides
import Derived.Test.YtnimehkfnpepfaaWh3
import Derived.OpenShut
import Derived.Test.YtnimehkfnpepfaaWh7
namespace Go.Proofs.Ytnimehkfnpepfaa
open Go.RowKit
set_option maxRecDepth 100000
set_option linter.unusedVariables false
set_option linter.unusedSimpArgs false

section
/-
  The field of 256 numbers, plainly: products by doubling, the document's product (all out, then the rest), inverses, powers of 2. No Go in sight.
-/
namespace Fld
/-- x times 2 -/
def dbl (a : Nat) : Nat := if a < 128 then 2 * a else (2 * a % 256) ^^^ 135
/-! two additive functions that agree at the bits agree -/
/-! powers and inverse -/
/-! the document's product: all out, then the rest -/
/-! logs -/
/-- the powers, one behind the other: does a come among the k from p on? -/
def comes (a : Nat) : Nat → Nat → Bool
  | 0, _ => false
  | k + 1, p => p == a || comes a k (dbl p)
end Fld

/-! the document's -/
theorem wrap_i64_in (n : Int) (h1 : -9223372036854775808 ≤ n) (h2 : n ≤ 9223372036854775807) : IntKind.i64.wrap n = n := by
  rw [IntKind.wrap_i64]; omega
theorem ofInt_i64 (a : Nat) (ha : a < 2 ^ 63) : (BitVec.ofInt 64 (a : Int)).toNat = a := by
  rw [BitVec.ofInt_natCast, BitVec.toNat_ofNat]; exact Nat.mod_eq_of_lt (by omega)
/-! powers of 2 -/
/-! the contracts once more, over whole numbers: they fit whatever stands in a slot -/
end

section
/-! the sum of bytes, bit by bit -/
/-- byte i of k bytes of a number, the highest first -/
def beB (k x i : Nat) : Nat := x / 2 ^ (8 * (k - 1 - i)) % 256
def beL (k x : Nat) : List Nat := tab k (beB k x)
theorem beB_lt (k x i : Nat) : beB k x i < 256 := Nat.mod_lt _ (by decide)
theorem be_val (k x p j : Nat) (hx : x < 9223372036854775808) (hp : p = 8 * (k - 1 - j)) : IntKind.u8.wrap ((x : Int) / 2 ^ p) = (beB k x j : Int) := by
  rw [IntKind.wrap_u8', hp]
  unfold beB
  have e : ((x : Int) / 2 ^ (8 * (k - 1 - j))) = ((x / 2 ^ (8 * (k - 1 - j)) : Nat) : Int) := by simp
  rw [e]
  omega
theorem i64_or_n (a b : Nat) (ha : a < 2 ^ 63) (hb : b < 2 ^ 63) : bits .or .i64 (a : Int) (b : Int) = ((a ||| b : Nat) : Int) := by
  have hx : a ||| b < 2 ^ 63 := Nat.or_lt_two_pow (by omega) (by omega)
  show IntKind.i64.wrap ((BitVec.ofInt 64 (a : Int) ||| BitVec.ofInt 64 (b : Int)).toNat : Int) = _
  rw [BitVec.toNat_or, ofInt_i64 a ha, ofInt_i64 b hb, wrap_i64_in _ (by omega) (by omega)]
end

section
theorem cell_oneV (w : World) (v : Value) (j : Nat) (u : Value) (h : [v][j]? = some u) : (w.alloc (.cells #[v] 5)).cell? ((⟨w.heap.size, 0, none⟩ : Addr).add j) = some u := by
  rw [addr_add, cell_of_row _ _ _ _ _ _ (heap_alloc_new w _)]
  simpa using h
/-- 'append(v, x...)' of bytes, x not empty, seen from a world w0 ahead -/
theorem wpList_joinB (w0 w : World) (lo : Nat) {ops : Array Oper} {rest : List Oper} {o : Oper} {a : Act} {Q : Exit → Act → World → Prop} (hg : o.guard = none) (s x : Operand)
    (hop : o.op = Op.call { callee := .builtin .append, args := #[s, x], argTypes := #[23, 23] }) (ao : Option Addr) (m co : Nat) (D : List Nat) (hs : a.eval s = .slice ao m co)
    (hA : Ans w lo ao m co D) (hlo : w0.heap.size ≤ lo) (hlw : lo ≤ w.heap.size) (hG : w0.grownBy w none) (ad : Addr) (k cx : Nat) (X : List Nat) (hx : a.eval x = .slice (some ad) k cx) (hX : X.length = k) (hXB : IsB X)
    (hc : ∀ j u, (bys X)[j]? = some u → w.cell? (ad.add j) = some u) (hk : 0 < k) (hb : m + k ≤ 140737488355000)
    (hK : ∀ gx cx w', Ans w' lo (some ⟨gx, 0, none⟩) (m + k) cx (D ++ X) → w0.grownBy w' none → ((Value.slice ao m co).ownBlock = some gx ∨ w.heap.size ≤ gx) → w.grownBy w' (Value.slice ao m co).ownBlock → wpList Try.prog ops Q rest (a.put o.dst (.slice (some ⟨gx, 0, none⟩) (m + k) cx)) w') :
    wpList Try.prog ops Q (o :: rest) a w := by
  refine wpList_apB w hg s x hop (.slice ao m co) m (bys D) hs hA.own ad k cx (bys X) hx (by rw [bys_length, hX]) hc (bys_one X) hk (by omega) ?_
  intro gx cx' w2 hgx hgr2 hown2
  have e : bys D ++ bys X = bys (D ++ X) := by simp [bys]
  rw [e] at hown2
  refine hK gx cx' w2 ⟨hown2, isB_append hA.byte hXB, fun g h => ?_⟩ (grown_far hG hgr2 (fun g h => Nat.le_trans hlo (hA.new g h))) hgx hgr2
  have e : gx = g := Option.some.inj h
  subst e
  rcases hgx with h | h
  · exact hA.new gx h
  · exact Nat.le_trans hlw h
/-- the bytes of the first k numbers -/
def pbL (s : Nat) (N : Nat → Nat) : Nat → List Nat
  | 0 => []
  | k + 1 => pbL s N k ++ beL s (N k)
set_option maxHeartbeats 4000000 in
theorem dput_any (w0 : World) (lo : Nat) (ao : Option Addr) (m co s : Nat) (D : List Nat) (an : Option Addr) (nn cn : Nat) (S : List Int) (N : Nat → Nat) (w : World) (hA : Ans w lo ao m co D) (hlo : w0.heap.size ≤ lo) (hlw : lo ≤ w.heap.size) (hG : w0.grownBy w none)
    (hS : RdI w an nn cn S) (hSb : ∀ b off, an = some ⟨b, off, none⟩ → some b ≠ (Value.slice ao m co).ownBlock) (hN : ∀ i, i < nn → nthI S i = (N i : Nat) ∧ N i < 9223372036854775808) (hs : s ≤ 4) (hm : m ≤ 1000000000) (hnn : nn ≤ 1000) :
    Calls Try.prog 87 #[.slice ao m co, .int .i64 s, .slice an nn cn] w fun e w' => ∃ a' c', e = .returned (.slice a' (m + s * nn) c') ∧ Ans w' lo a' (m + s * nn) c' (D ++ pbL s N nn) ∧ w0.grownBy w' none := by
  go_enter Try.func87, Try.ntmps87
  go_wp2
  go_loopw [0, 12] (fun l i wr => ∃ (k : Nat) (a1 : Option Addr) (c1 : Nat), k ≤ nn ∧ i = .int .i64 k ∧ l = .slice a1 (m + s * k) c1 ∧ Ans wr lo a1 (m + s * k) c1 (D ++ pbL s N k) ∧ w0.grownBy wr none ∧ lo ≤ wr.heap.size ∧ RdI wr an nn cn S ∧ (∀ b off, an = some ⟨b, off, none⟩ → some b ≠ (Value.slice a1 (m + s * k) c1).ownBlock)) (fun _ i _ => nn - (intOf i).toNat)
  case atStart => exact ⟨0, ao, co, by omega, rfl, rfl, by simpa [pbL] using hA, hG, hlw, hS, hSb⟩
  case round =>
    obtain ⟨k, a1, c1, hk, rfl, rfl, hA1, hG1, hl1, hS1, hB1⟩ := hrel
    have hsk : s * k ≤ 4 * 1000 := Nat.mul_le_mul hs (by omega)
    by_cases hlt : k < nn
    · have hki : (k : Int) < (nn : Int) := by omega
      obtain ⟨bS, oS, ean, hbS, hcS⟩ := hS1.at' (by omega)
      obtain ⟨hNk, hNl⟩ := hN k hlt
      have cS := hcS k hlt
      rw [hNk] at cS
      have hB1' := hB1 bS oS ean
      subst ean
      have hk0 : (0 : Int) ≤ (k : Int) := by omega
      obtain ⟨x, hx⟩ : ∃ x, x = N k := ⟨_, rfl⟩
      have HX : Hid (pbL s N (k + 1) = pbL s N k ++ tab s (beB s x)) := by rw [hx]; rfl
      obtain ⟨mk, hmk⟩ : ∃ mk, mk = m + s * k := ⟨_, rfl⟩
      have HM : Hid (m + s * (k + 1) = mk + s) := (show m + s * (k + 1) = mk + s by rw [hmk, Nat.mul_succ]; omega)
      have hmkl : mk ≤ 1000004000 := by omega
      rw [← hmk] at hA1 hB1 hB1' ⊢
      rw [← hx] at cS hNl
      generalize hDk : D ++ pbL s N k = Dk at hA1
      have HDk : Hid (D ++ pbL s N k = Dk) := hDk
      clear hx hDk hcS hNk hN hmk hA hS hSb
      go_wp2
      go_loopw [0, 17] (fun l i wi => ∃ (j : Nat) (a2 : Option Addr) (c2 : Nat), j ≤ s ∧ i = .int .i64 j ∧ l = .slice a2 (mk + j) c2 ∧ Ans wi lo a2 (mk + j) c2 (Dk ++ tab j (beB s x)) ∧ w0.grownBy wi none ∧ lo ≤ wi.heap.size ∧ RdI wi (some ⟨bS, oS, none⟩) nn cn S ∧ some bS ≠ (Value.slice a2 (mk + j) c2).ownBlock) (fun _ i _ => s - (intOf i).toNat)
      case atStart => exact ⟨0, a1, c1, by omega, rfl, rfl, by simpa [tab] using hA1, hG1, hl1, hS1, hB1'⟩
      case round =>
        obtain ⟨j, a2, c2, hj, rfl, rfl, hA2, hG2, hl2, hS2, hB2⟩ := hrel
        by_cases hjs : j < s
        · have hji : (j : Int) < (s : Int) := by omega
          obtain ⟨p, hp⟩ : ∃ p, p = 8 * (s - 1 - j) := ⟨_, rfl⟩
          have hv := be_val s x p j hNl hp
          have hvl := beB_lt s x j
          have hsj : Hid (tab (j + 1) (beB s x) = tab j (beB s x) ++ [beB s x j]) := tab_succ _ _
          have hjd : (s : Int) - 1 - (j : Int) = ((s - 1 - j : Nat) : Int) := by omega
          have e1 : ((s - 1 - j : Nat) : Int) * 8 = (p : Int) := by omega
          have e2 : ((s : Int) - 1 - (j : Int)) * 8 = (p : Int) := by omega
          have hp64 : p < 64 := by omega
          clear hp
          generalize beB s x j = y at hv hvl hsj
          have hA2' := hA2.keep (World.grownBy_alloc wr (.cells #[.int .u8 (y : Nat)] 5) none)
          have hG2' := grown_trans hG2 (World.grownBy_alloc wr (.cells #[.int .u8 (y : Nat)] 5) none)
          have hl2' : lo ≤ (wr.alloc (.cells #[.int .u8 (y : Nat)] 5)).heap.size := by simp; omega
          have hyB : IsB [y] := fun z hz => by simp at hz; subst hz; exact hvl
          have hbl : bS < wr.heap.size := by obtain ⟨_, _, e, h, _⟩ := hS2.at' (by omega); cases e; exact h
          go_wp2_with (at_builtin; refine wpList_joinB w0 _ lo rfl _ _ rfl a2 (mk + j) c2 _ rfl hA2' hlo hl2' hG2' ⟨wr.heap.size, 0, none⟩ 1 1 [y] rfl rfl hyB (cell_oneV wr (.int .u8 (y : Nat))) (by decide) (by omega) ?_; intro gx cx w2 hA3 hG3 hgx hgr3)
          rw [List.append_assoc, ← hsj.out] at hA3
          go_roundw
          case rel =>
            refine ⟨j + 1, some ⟨gx, 0, none⟩, cx, by omega, by go_num, rfl, hA3, hG3, Nat.le_trans hl2' hgr3.size, ?_, ?_⟩
            · exact (hS2.grown (World.grownBy_alloc wr _ none) (fun _ _ _ => by simp)).grown hgr3 (fun b off e => by cases e; exact hB2)
            · intro e
              have e : bS = gx := Option.some.inj e
              subst e
              rcases hgx with h | h
              · exact hB2 h.symm
              · simp at h; omega
          case measure => simp [intOf]; omega
        · obtain rfl : j = s := by omega
          go_wp2
          go_roundw
          case rel =>
            refine ⟨k + 1, a2, c2, by omega, by go_num, by rw [HM.out], ?_, hG2, hl2, hS2, ?_⟩
            · rw [HM.out, HX.out, ← List.append_assoc, HDk.out]; exact hA2
            · rw [HM.out]; intro b off e; cases e; exact hB2
          case measure => simp [intOf]; omega
    · obtain rfl : k = nn := by omega
      go_wp2
      go_ret
      exact ⟨a1, c1, rfl, hA1, hG1⟩

/-- a string's bytes -/
def strL (s : ByteArray) : List Nat := s.data.toList.map UInt8.toNat
theorem strL_len (s : ByteArray) : (strL s).length = s.size := by unfold strL; rw [List.length_map, Array.length_toList]; rfl
theorem strL_isB (s : ByteArray) : IsB (strL s) := by
  intro x hx
  obtain ⟨b, _, rfl⟩ := List.mem_map.1 hx
  exact b.toNat_lt
theorem strL_cells (s : ByteArray) : Lib.strCells s = bys (strL s) := by
  unfold Lib.strCells strL bys
  rw [List.map_map]; rfl
theorem rdI_one (w : World) (x : Int) : RdI (w.alloc (.cells #[.int .i64 x] 3)) (some ⟨w.heap.size, 0, none⟩) 1 1 [x] := by
  refine ⟨rfl, Nat.le_refl _, by decide, (fun h => by cases h), fun _ => ⟨w.heap.size, 0, rfl, by simp, fun i hi => ?_⟩⟩
  obtain rfl : i = 0 := by omega
  rw [Nat.zero_add, cell_of_row _ _ _ _ _ _ (heap_alloc_new w _)]; rfl
theorem rdI_two (w : World) (x y : Int) : RdI (w.alloc (.cells #[.int .i64 x, .int .i64 y] 3)) (some ⟨w.heap.size, 0, none⟩) 2 2 [x, y] := by
  refine ⟨rfl, Nat.le_refl _, by decide, (fun h => by cases h), fun _ => ⟨w.heap.size, 0, rfl, by simp, fun i hi => ?_⟩⟩
  rw [Nat.zero_add, cell_of_row _ _ _ _ _ _ (heap_alloc_new w _)]
  match i, hi with
  | 0, _ => rfl
  | 1, _ => rfl
theorem ans_below {w : World} {lo : Nat} {a : Option Addr} {n cap : Nat} {L : List Nat} (h : Ans w lo a n cap L) {b : Nat} (hb : w.heap.size ≤ b) : some b ≠ (Value.slice a n cap).ownBlock := by
  rcases h.cases with ⟨rfl, _, _⟩ | ⟨g, rfl, _, hg⟩
  · intro e; cases e
  · intro e
    have e : b = g := Option.some.inj e
    omega
/-- put one number behind bytes -/
theorem dput1 (w0 : World) (lo : Nat) (ao : Option Addr) (m co s : Nat) (D : List Nat) (x : Nat) (w : World) (hA : Ans w lo ao m co D) (hlo : w0.heap.size ≤ lo) (hlw : lo ≤ w.heap.size) (hG : w0.grownBy w none) (hx : x < 9223372036854775808) (hs : s ≤ 4) (hm : m ≤ 1000000000) :
    Calls Try.prog 87 #[.slice ao m co, .int .i64 s, .slice (some ⟨w.heap.size, 0, none⟩) 1 1] (w.alloc (.cells #[.int .i64 (x : Nat)] 3)) fun e w' => ∃ a' c', e = .returned (.slice a' (m + s) c') ∧ Ans w' lo a' (m + s) c' (D ++ beL s x) ∧ w0.grownBy w' none := by
  have gA := World.grownBy_alloc w (.cells #[.int .i64 (x : Nat)] 3) none
  have h := dput_any w0 lo ao m co s D (some ⟨w.heap.size, 0, none⟩) 1 1 [(x : Int)] (fun _ => x) _ (hA.keep gA) hlo (Nat.le_trans hlw gA.size) (grown_trans hG gA) (rdI_one w x) (fun b off e => by cases e; exact ans_below hA (Nat.le_refl _)) (fun i hi => match i, hi with
    | 0, _ => ⟨rfl, hx⟩) hs hm (by decide)
  refine h.mono ?_
  rintro e w' ⟨a', c', rfl, h1, h2⟩
  rw [Nat.mul_one] at h1 ⊢
  exact ⟨a', c', rfl, by simpa [pbL] using h1, h2⟩
theorem dput2 (w0 : World) (lo : Nat) (ao : Option Addr) (m co s : Nat) (D : List Nat) (x y : Nat) (w : World) (hA : Ans w lo ao m co D) (hlo : w0.heap.size ≤ lo) (hlw : lo ≤ w.heap.size) (hG : w0.grownBy w none) (hx : x < 9223372036854775808) (hy : y < 9223372036854775808) (hs : s ≤ 4) (hm : m ≤ 1000000000) :
    Calls Try.prog 87 #[.slice ao m co, .int .i64 s, .slice (some ⟨w.heap.size, 0, none⟩) 2 2] (w.alloc (.cells #[.int .i64 (x : Nat), .int .i64 (y : Nat)] 3)) fun e w' => ∃ a' c', e = .returned (.slice a' (m + s * 2) c') ∧ Ans w' lo a' (m + s * 2) c' (D ++ (beL s x ++ beL s y)) ∧ w0.grownBy w' none := by
  have gA := World.grownBy_alloc w (.cells #[.int .i64 (x : Nat), .int .i64 (y : Nat)] 3) none
  have h := dput_any w0 lo ao m co s D (some ⟨w.heap.size, 0, none⟩) 2 2 [(x : Int), (y : Int)] (fun i => if i = 0 then x else y) _ (hA.keep gA) hlo (Nat.le_trans hlw gA.size) (grown_trans hG gA) (rdI_two w x y) (fun b off e => by cases e; exact ans_below hA (Nat.le_refl _)) (fun i hi => match i, hi with
    | 0, _ => ⟨rfl, hx⟩
    | 1, _ => ⟨rfl, hy⟩) hs hm (by decide)
  refine h.mono ?_
  rintro e w' ⟨a', c', rfl, h1, h2⟩
  exact ⟨a', c', rfl, by simpa [pbL] using h1, h2⟩

/-- 'append(v, s...)', s a string, in a region that draws -/
theorem step_joinS {w : World} {ops : Array Oper} {o : Oper} {a : Act} {K : Act → World → Prop} {Q : Exit → Act → World → Prop} {E : Prop} (hg : o.guard = none) (s x : Operand)
    (hop : o.op = Op.call { callee := .builtin .append, args := #[s, x], argTypes := #[23, 9] }) (ao : Option Addr) (m co lo : Nat) (D : List Nat) (hs : a.eval s = .slice ao m co)
    (hA : Ans w lo ao m co D) (hlo : lo ≤ w.heap.size) (z : ByteArray) (hx : a.eval x = .string z) (hb : m + z.size ≤ 140737488355328)
    (hK : ∀ a' c' w', Ans w' lo a' (m + z.size) c' (D ++ strL z) → w.grownBy w' (Value.slice ao m co).ownBlock → K (a.put o.dst (.slice a' (m + z.size) c')) w') :
    if Region.wanted o (yielded ops a.tmps) = true then Oper.wp Try.prog o a w K Q else E := by
  have hw : Region.wanted o (yielded ops a.tmps) = true := by simp [Region.wanted, hg]
  rw [if_pos hw]
  obtain ⟨i0, hi, hz0, hz1, hz2⟩ := info_parts Try.info_u8
  obtain ⟨v', w', hr, hown, hgr, _⟩ := Lib.run_append_own_string (P := Try.prog) w lo 23 9 o.type 5 i0 Try.underlying23 Try.underlying9 hi hz0 hz1 hz2 (.slice ao m co) m (bys D) hA.up z (by unfold maxLen; omega) hb hlo
  unfold Oper.wp execOp
  simp only [hop, resolve, invoke, builtin, Sem.run_bind, Sem.run_pure, Result.andThen_ok, List.map_toArray, List.map_cons, List.map_nil, hs, hx, hr]
  show K _ _
  rw [strL_cells, bys_app] at hown
  have hown' := hown
  rcases hown.2 with ⟨h1, h2⟩ | ⟨g, c1, cur, h1, h2, h3⟩
  · subst h1
    have hq := hK none 0 w' ⟨by rw [h2]; exact own_base (by rw [h2] at hown'; exact hown'), isB_append hA.byte (strL_isB z), fun g h => by simp [Value.ownBlock] at h⟩ hgr
    rw [h2] at hq
    exact hq
  · subst h1
    exact hK (some ⟨g, 0, none⟩) c1 w' ⟨own_base hown', isB_append hA.byte (strL_isB z), fun g' h => by have e : g = g' := Option.some.inj h; omega⟩ hgr
/-- 'append(v, x...)', x not empty, in a region that draws -/
theorem step_joinP {w : World} {ops : Array Oper} {o : Oper} {a : Act} {K : Act → World → Prop} {Q : Exit → Act → World → Prop} {E : Prop} (hg : o.guard = none) (s x : Operand)
    (hop : o.op = Op.call { callee := .builtin .append, args := #[s, x], argTypes := #[23, 23] }) (ao : Option Addr) (m co lo : Nat) (D : List Nat) (hs : a.eval s = .slice ao m co)
    (hA : Ans w lo ao m co D) (hlo : lo ≤ w.heap.size) (ad : Addr) (nx cx : Nat) (X : List Nat) (hx : a.eval x = .slice (some ad) nx cx) (hR : Rd w (some ad) nx cx X) (h0 : 0 < nx) (hb : m + nx ≤ 140737488355328)
    (hK : ∀ a' c' w', Ans w' lo a' (m + nx) c' (D ++ X) → w.grownBy w' (Value.slice ao m co).ownBlock → K (a.put o.dst (.slice a' (m + nx) c')) w') :
    if Region.wanted o (yielded ops a.tmps) = true then Oper.wp Try.prog o a w K Q else E := by
  have hw : Region.wanted o (yielded ops a.tmps) = true := by simp [Region.wanted, hg]
  rw [if_pos hw]
  obtain ⟨i0, hi, hz0, hz1, hz2⟩ := info_parts Try.info_u8
  obtain ⟨b, off, e, _, hc⟩ := hR.at' h0
  cases e
  obtain ⟨v', w', hr, hown, hgr, _⟩ := run_append_own (P := Try.prog) w lo 23 o.type 5 i0 (.int .u8 0) 1 1 Try.underlying23 hi hz0 hz1 hz2 rfl (by decide) (.slice ao m co) m (bys D) hA.up ⟨b, off, none⟩ nx cx (bys X) (by rw [bys_length, hR.len]; omega) (by
    intro j u hu
    have hj : j < X.length := by
      have := (List.getElem?_eq_some_iff.1 hu).1
      rw [bys_length] at this; exact this
    rw [nth_bys X j hj] at hu
    rw [← hu, addr_add]
    exact hc j (by rw [← hR.len]; exact hj)) (bys_one _) (by unfold maxLen; omega) (by omega) hlo
  unfold Oper.wp execOp
  simp only [hop, resolve, invoke, builtin, Sem.run_bind, Sem.run_pure, Result.andThen_ok, List.map_toArray, List.map_cons, List.map_nil, hs, hx, hr]
  show K _ _
  rw [bys_app] at hown
  have hown' := hown
  rcases hown.2 with ⟨h1, h2⟩ | ⟨g, c1, cur, h1, h2, h3⟩
  · omega
  · subst h1
    exact hK (some ⟨g, 0, none⟩) c1 w' ⟨own_base hown', isB_append hA.byte hR.byte, fun g' h => by have e : g = g' := Option.some.inj h; omega⟩ hgr
end
end Go.Proofs.Ytnimehkfnpepfaa
