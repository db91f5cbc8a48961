import Derived.Test.YtnimehkfnpepfaaWh0
import Derived.Test.YtnimehkfnpepfaaWh1
import Derived.Deep.RegionLawGrows
import Derived.Test.YtnimehkfnpepfaaWh8
import Derived.Test.YtnimehkfnpepfaaWh7
import Derived.Deep.WholeRow
import Derived.Test.YtnimehkfnpepfaaWh12
import Derived.Test.YtnimehkfnpepfaaWh3
import Derived.Lib.AppendZerosOnto
import Derived.Test.YtnimehkfnpepfaaWh9
import Derived.Test.YtnimehkfnpepfaaProg
namespace Go.Proofs.Ytnimehkfnpepfaa
open Go.RowKit
set_option maxRecDepth 100000
set_option linter.unusedVariables false
set_option linter.unusedSimpArgs false

section
/-- a box with a number -/
def BxI (w : World) (g : Nat) (x : Int) : Prop := w.heap[g]? = some (.cells #[.int .i64 x] 3)
theorem BxI.new (w : World) (x : Int) : BxI (w.alloc (.cells #[.int .i64 x] 3)) w.heap.size x := heap_alloc_new w _
theorem take_val (H m k : Nat) (hk : k ≤ 16) (hH : H < 281474976710656) : wrap64 (bits .and .u64 ((H : Int) / 2 ^ m) (IntKind.u64.wrap (IntKind.u64.wrap (2 ^ k) - 1))) = ((H / 2 ^ m % 2 ^ k : Nat) : Int) := by
  have hp : 2 ^ k ≤ 65536 := Nat.pow_le_pow_right (n := 2) (by decide) hk
  have hq : 0 < 2 ^ k := Nat.pow_pos (by decide)
  have hd : H / 2 ^ m < 281474976710656 := Nat.lt_of_le_of_lt (Nat.div_le_self _ _) hH
  have e1 : (2 : Int) ^ k = ((2 ^ k : Nat) : Int) := by simp
  have e2 : (H : Int) / 2 ^ m = ((H / 2 ^ m : Nat) : Int) := by simp
  have e3 : IntKind.u64.wrap (IntKind.u64.wrap (2 ^ k) - 1) = ((2 ^ k - 1 : Nat) : Int) := by
    rw [e1, wrapU, wrapU]
    generalize 2 ^ k = q at hp hq
    omega
  rw [e3, e2, u64_and_nat _ _ (by omega) (by omega), Nat.and_two_pow_sub_one_eq_mod]
  have hm : H / 2 ^ m % 2 ^ k < 65536 := Nat.lt_of_lt_of_le (Nat.mod_lt _ hq) hp
  unfold wrap64
  generalize H / 2 ^ m % 2 ^ k = r at hm
  omega
end

section
/-- the number that the first k bytes make -/
def hdV (B : List Nat) : Nat → Nat
  | 0 => 0
  | k + 1 => hdV B k * 256 + nth B k
theorem hdV_lt {B : List Nat} (hB : IsB B) (k : Nat) : hdV B k < 256 ^ k := by
  induction k with
  | zero => show 0 < 1; decide
  | succ k ih =>
    have := hB.nth k
    simp only [hdV, Nat.pow_succ]
    omega
theorem hdV_step (B : List Nat) (hB : IsB B) (k : Nat) (hk : k < 6) : bits .or .u64 (IntKind.u64.wrap ((hdV B k : Int) * 256)) (nth B k : Int) = ((hdV B (k + 1) : Nat) : Int) := by
  have h1 := hdV_lt hB k
  have h2 : 256 ^ k ≤ 256 ^ 5 := Nat.pow_le_pow_right (by decide) (by omega)
  have h3 := hB.nth k
  have := put_val 8 (nth B k) (hdV B k) (by decide) (by omega) (by omega)
  rw [wrapU (nth B k : Int)] at this
  have e : (nth B k : Int) % 18446744073709551616 = (nth B k : Int) := by omega
  rw [e] at this
  exact this
end

section
/-- bytes that are not yet read -/
structure Rdr (w0 w : World) (gr : Nat) (D : List Nat) : Prop where
  lo : w0.heap.size ≤ gr
  ex : ∃ a n c, BxS w gr 123 #[.slice a n c] ∧ Rd w0 a n c D
  g : w0.grownBy w none
theorem or_256 (x b : Nat) (hx : x < 4294967296) (hb : b < 256) : bits .or .i64 ((x : Int) * 256) (b : Int) = ((x * 256 + b : Nat) : Int) := by
  have e : (x : Int) * 256 = ((x * 256 : Nat) : Int) := by omega
  rw [e, i64_or_n _ _ (by omega) (by omega)]
  congr 1
  have h3 := Nat.shiftLeft_add_eq_or_of_lt (show b < 2 ^ 8 by omega) x
  rw [Nat.shiftLeft_eq] at h3
  exact h3.symm
theorem hdV_4 {D : List Nat} (hB : IsB D) {k : Nat} (hk : k ≤ 3) : hdV D k < 16777216 := by
  have h1 := hdV_lt hB k
  have h2 : 256 ^ k ≤ 256 ^ 3 := Nat.pow_le_pow_right (by decide) hk
  omega
theorem Rd.beh {w : World} {b off n cap k : Nat} {L : List Nat} (h : Rd w (some ⟨b, off, none⟩) n cap L) (hk : k ≤ n) : Rd w (some ⟨b, if cap = k then off else off + k, none⟩) (n - k) (cap - k) (L.drop k) := by
  have h1 := h.le
  have hl := h.len
  have hB : IsB (L.drop k) := fun x hx => h.byte x (List.mem_of_mem_drop hx)
  by_cases e : cap = k
  · rw [if_pos e]
    refine ⟨by rw [List.length_drop, hl], by omega, by have := h.max; omega, (fun e => by cases e), hB, fun h0 => by omega⟩
  · rw [if_neg e]
    refine ⟨by rw [List.length_drop, hl], by omega, by have := h.max; omega, (fun e => by cases e), hB, fun h0 => ?_⟩
    obtain ⟨b', off', e', hb, hc⟩ := h.at' (by omega)
    cases e'
    refine ⟨b, off + k, rfl, hb, fun i hi => ?_⟩
    have := hc (k + i) (by omega)
    rw [← Nat.add_assoc] at this
    rw [this]
    congr 3
    unfold nth
    simp [List.getD_eq_getElem?_getD, List.getElem?_drop]
set_option maxHeartbeats 8000000 in
theorem number_ok (w0 w : World) (gr k : Nat) (D : List Nat) (hh : Rdr w0 w gr D) (hk : 1 ≤ k ∧ k ≤ 4) (hl : k ≤ D.length) :
    Calls Try.prog 110 #[.pointer (some ⟨gr, 0, none⟩), .int .i64 (k : Int)] w fun e w' => e = .returned (.int .i64 (hdV D k : Nat)) ∧ Rdr w0 w' gr (D.drop k) ∧ w.grownBy w' (some gr) := by
  obtain ⟨a, n, c, bx, hR⟩ := hh.ex
  have hn := hR.len
  have hB := hR.byte
  have hle := hR.le
  have hmx := hR.max
  unfold maxLen at hmx
  obtain ⟨b, off, rfl, hbw, hc⟩ := (hR.keep hh.g).at' (by omega)
  have hc0 : w.cell? ⟨gr, 0, none⟩ = some (.slice (some ⟨b, off, none⟩) n c) := bx.cell 0 (by show 0 < 1; decide)
  have hf := bx.free 0
  have hbe := hR.beh (k := k) (by omega)
  have lk : ¬ (n : Int) < (k : Int) := by omega
  have lk1 : (k : Int) ≤ (n : Int) := by omega
  have lk2 : (k : Int) ≤ (c : Int) := by omega
  go_enter Try.func110, Try.ntmps110
  go_wp2
  go_loopw [5, 30] (fun nv iv wr => ∃ j : Nat, j ≤ k ∧ iv = .int .i64 j ∧ nv = .int .i64 (hdV D j : Nat) ∧ Hid (wr = w)) (fun _ iv _ => k - (intOf iv).toNat)
  case atStart => exact ⟨0, Nat.zero_le _, rfl, rfl, rfl⟩
  case round =>
    obtain ⟨j, hj, rfl, rfl, hwr⟩ := hrel
    have hwr := hwr.out
    subst hwr
    by_cases hlt : j < k
    · have lj : (j : Int) < (k : Int) := by omega
      have cj := hc j (by omega)
      have v1 := hdV_4 hB (k := j) (by omega)
      have v2 := hB.nth j
      have ho := or_256 (hdV D j) (nth D j) (by omega) v2
      have e2 : ((hdV D (j + 1) : Nat) : Int) = ((hdV D j * 256 + nth D j : Nat) : Int) := rfl
      have HE : Hid _ := e2
      clear e2
      generalize hdV D j = x at *
      generalize nth D j = y at *
      go_wp2
      go_roundw
      case rel => exact ⟨j + 1, by omega, by go_num, by rw [HE.out]; go_num, (by first | exact rfl | exact trivial)⟩
      case measure => simp [intOf] <;> omega
    · obtain rfl : j = k := by omega
      have lj : ¬ (j : Int) < (j : Int) := by omega
      have HBE : Hid _ := hbe
      clear hbe
      go_wp2
      · go_ret
        refine ⟨rfl, ⟨hh.lo, ⟨_, _, _, bx.set 0 _, ?_⟩, grown_far hh.g (grown_set wr gr 0 _) (fun q e => by have e := Option.some.inj e; have := hh.lo; omega)⟩, grown_set wr gr 0 _⟩
        have h9 := HBE.out
        rw [if_pos (by omega), show c - j = 0 by omega] at h9
        exact h9
      · rename_i hne
        go_ret
        refine ⟨rfl, ⟨hh.lo, ⟨_, _, _, bx.set 0 _, ?_⟩, grown_far hh.g (grown_set wr gr 0 _) (fun q e => by have e := Option.some.inj e; have := hh.lo; omega)⟩, grown_set wr gr 0 _⟩
        have h9 := HBE.out
        rw [if_neg (by omega)] at h9
        exact h9
/-- bytes end too early -/
theorem number_no (w0 w : World) (gr k : Nat) (D : List Nat) (hh : Rdr w0 w gr D) (hk : 1 ≤ k ∧ k ≤ 4) (hl : D.length < k) :
    Calls Try.prog 110 #[.pointer (some ⟨gr, 0, none⟩), .int .i64 (k : Int)] w fun e w' => e = .panicked [{ v := .iface 120 (.int .i64 ((k : Int) - (D.length : Int))), recovered := false }] ∧ w' = w := by
  obtain ⟨a, n, c, bx, hR⟩ := hh.ex
  have hn := hR.len
  have hle := hR.le
  have hmx := hR.max
  unfold maxLen at hmx
  have hc0 : w.cell? ⟨gr, 0, none⟩ = some (.slice a n c) := bx.cell 0 (by show 0 < 1; decide)
  have lk : (n : Int) < (k : Int) := by omega
  subst hn
  go_enter Try.func110, Try.ntmps110
  go_wp2
  exact ⟨rfl, rfl, rfl⟩
set_option maxHeartbeats 8000000 in
/-- all bytes that are left -/
theorem rest_any (w0 w : World) (gr : Nat) (D : List Nat) (hh : Rdr w0 w gr D) (hl : D.length ≤ 140737488355328) :
    Calls Try.prog 111 #[.pointer (some ⟨gr, 0, none⟩)] w fun e w' => ∃ a c, e = .returned (.slice a D.length c) ∧ Ans w' w.heap.size a D.length c D ∧ Rdr w0 w' gr [] ∧ w.grownBy w' (some gr) := by
  obtain ⟨a, n, c, bx, hR⟩ := hh.ex
  have hn := hR.len
  have hc0 : w.cell? ⟨gr, 0, none⟩ = some (.slice a n c) := bx.cell 0 (by show 0 < 1; decide)
  have s0 : True := trivial
  go_enter Try.func111, Try.ntmps111
  go_wp2_with (go_at_call 57; have _t := s0; clear s0; refine (dclone_any a n c D w (hR.keep hh.g) (by omega)).mono ?_; rintro e w1 ⟨a', c', rfl, hA, g1⟩; have b1 := bx.keep g1 (by simp); have c1 : w1.cell? ⟨gr, 0, none⟩ = some (.slice a n c) := b1.cell 0 (by show 0 < 1; decide); have f1 := b1.free 0)
  go_ret
  subst hn
  refine ⟨a', c', rfl, hA.kept (grown_set w1 gr 0 _) (.inr (fun e => ?_)), ⟨hh.lo, ⟨_, _, _, b1.set 0 _, ⟨rfl, Nat.le_refl _, Nat.zero_le _, (fun _ => rfl), (fun x hx => by cases hx), (fun h => by omega)⟩⟩, grown_far (grown_trans hh.g g1) (grown_set w1 gr 0 _) (fun q e => by have e := Option.some.inj e; have := hh.lo; omega)⟩, grown_trans (grown_weak g1 _) (grown_set w1 gr 0 _)⟩
  have h1 := bx.lt
  have h2 := hA.new gr e
  omega
end

section
theorem pclone_any (b off n cap : Nat) (D : List Nat) (w : World) (hp : Rd w (some ⟨b, off, none⟩) n cap D) (h0 : 0 < n) (hn : n ≤ 140737488355328) :
    Calls Try.prog 57 #[.slice (some ⟨b, off, none⟩) n cap] w fun e w' => ∃ g' c', e = .returned (.slice (some ⟨g', 0, none⟩) n c') ∧ Ans w' w.heap.size (some ⟨g', 0, none⟩) n c' D ∧ w.grownBy w' none := by
  have gA := World.grownBy_alloc w (.cells #[] 5) none
  have hA := heap_alloc_new w (.cells #[] 5)
  have hown : (w.alloc (.cells #[] 5)).ownsRow 0 5 1 (.slice (some ⟨w.heap.size, 0, none⟩) 0 0) 0 (bys []) := ⟨rfl, .inr ⟨w.heap.size, 0, #[], rfl, Nat.zero_le _, hA, Nat.le_refl _, Nat.zero_le _, rfl, rfl⟩⟩
  have hpA := hp.keep gA
  have heq := fun w => Lib.run_eql_slice_nil (P := Try.prog) w 23 5 (some ⟨b, off, none⟩) n cap 0 0 Try.underlying23
  go_enter Try.func57, Try.ntmps57
  go_wp2_with (at_builtin; refine wpList_apB _ rfl _ _ rfl (.slice (some ⟨w.heap.size, 0, none⟩) 0 0) 0 (bys []) rfl hown ⟨b, off, none⟩ n cap (bys D) rfl (by rw [bys_length, hp.len]) (rd_news hpA h0) (bys_one _) h0 (by omega) ?_; intro g' c' w2 hg2 hgr2 hown2)
  go_ret
  rw [Nat.zero_add] at *
  refine ⟨g', c', rfl, ⟨hown2, hp.byte, fun x hx => ?_⟩, grown_far gA hgr2 (fun x hx => by have e : w.heap.size = x := Option.some.inj hx; omega)⟩
  have e : g' = x := Option.some.inj hx
  rcases hg2 with h | h
  · have e2 : w.heap.size = g' := Option.some.inj h
    omega
  · simp at h; omega
/-- what a packet's bytes say -/
def dcE (B : List Nat) : Nat := if B.length < 6 then 7 else if hdV B 6 / 2 ^ 45 ≠ 0 then 8 else if B.length < 7 + hdV B 6 % 65536 then 7 else 0
def dcU (B : List Nat) : Bool := if dcE B = 0 then decide (hdV B 6 / 2 ^ 44 % 2 = 1) else false
def dcS (B : List Nat) : Bool := if dcE B = 0 then decide (hdV B 6 / 2 ^ 43 % 2 = 1) else false
def dcA (B : List Nat) : Nat := if dcE B = 0 then hdV B 6 / 2 ^ 32 % 2048 else 0
def dcP (B : List Nat) : Nat := if dcE B = 0 then hdV B 6 / 2 ^ 30 % 4 else 0
def dcC (B : List Nat) : Nat := if dcE B = 0 then hdV B 6 / 2 ^ 16 % 16384 else 0
def dcK (B : List Nat) : Nat := if dcE B = 0 then 7 + hdV B 6 % 65536 else 0
def dcD (B : List Nat) : List Nat := if dcE B = 0 then (B.drop 6).take (hdV B 6 % 65536 + 1) else []
theorem hdV_take (B : List Nat) (k : Nat) (hk : k ≤ 6) : hdV (B.take 6) k = hdV B k := by
  induction k with
  | zero => rfl
  | succ k ih =>
    simp only [hdV]
    rw [ih (by omega)]
    congr 1
    unfold nth
    rw [List.getD_eq_getElem?_getD, List.getD_eq_getElem?_getD, List.getElem?_take, if_pos (by omega)]
/-- what is told where no packet is: all noughts -/
theorem dc_no (B : List Nat) (E : Nat) (h : dcE B = E) (h0 : E ≠ 0) (w : World) (lo : Nat) :
    ∃ a' n' c', (Value.tuple #[pkV false false 0 0 0 none 0 0, .int .i64 0, .int .i64 (E : Int)]) = .tuple #[pkV (dcU B) (dcS B) (dcA B : Nat) (dcP B : Nat) (dcC B : Nat) a' n' c', .int .i64 (dcK B : Nat), .int .i64 (dcE B : Nat)] ∧ Ans w lo a' n' c' (dcD B) := by
  have hn : ¬ dcE B = 0 := by omega
  refine ⟨none, 0, 0, ?_, ?_⟩
  · unfold dcU dcS dcA dcP dcC dcK
    rw [if_neg hn, if_neg hn, if_neg hn, if_neg hn, if_neg hn, if_neg hn, h]
    rfl
  · unfold dcD
    rw [if_neg hn]
    exact ans_nil w lo
end

section
section
variable {wB w w' : World} {g3 g4 g7 : Nat} {NN : Array Value} {id : Int} {nm : ByteArray} {mo bu st : Int} {fi : Bool} {at' ti pa tr li : Int} {a : Option Addr} {n c : Nat} {L : List Nat} {q : Option Addr} {m d : Nat} {G : List (Int × Int)}
end
theorem alG_at {F : Nat → Int × Int} {s : Int} {n : Nat} (h : alG F s n = true) {j : Nat} (hj : j < n) : (((F j).1 = 0 ∧ (F j).2 = 0) ∨ (0 ≤ (F j).1 ∧ (F j).1 < (F j).2 ∧ (F j).2 ≤ s)) := by
  by_cases hg : gpB (F j).1 (F j).2 s = true
  · unfold gpB at hg; exact of_decide_eq_true hg
  · rw [alG_no F s j (by simpa using hg) n hj] at h; cases h

section
variable {wB w w' : World} {g3 g4 g7 : Nat} {NN : Array Value} {id : Int} {nm : ByteArray} {mo bu st : Int} {fi : Bool} {at' ti pa tr li : Int} {a : Option Addr} {n c : Nat} {L : List Nat} {q : Option Addr} {m d : Nat} {G : List (Int × Int)}
end
end
end Go.Proofs.Ytnimehkfnpepfaa
