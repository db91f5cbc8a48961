import Derived.Test.YtlfacjpehhcdiaaOn1
import Derived.Deep.RegionHeld3
namespace Go.Proofs.Ytlfacjpehhcdiaa
open Go.RowKit
set_option maxRecDepth 100000
set_option linter.unusedVariables false
set_option linter.unusedSimpArgs false

section
theorem and_pow2 (x k : Nat) : x &&& 2 ^ k = x / 2 ^ k % 2 * 2 ^ k := by
  have h1 : (x &&& 2 ^ k) / 2 ^ k = x / 2 ^ k % 2 := by
    rw [Nat.and_div_two_pow, Nat.div_self (Nat.two_pow_pos k), Nat.and_one_is_mod]
  have h2 : (x &&& 2 ^ k) % 2 ^ k = 0 := by
    rw [Nat.and_mod_two_pow, Nat.mod_self, Nat.and_zero]
  have h3 := Nat.div_add_mod (x &&& 2 ^ k) (2 ^ k)
  rw [h1, h2, Nat.add_zero, Nat.mul_comm] at h3
  exact h3.symm
theorem i64_and_p2 (x k : Nat) (hx : x < 2 ^ 63) (hk : k < 63) : bits .and .i64 (x : Int) ((2 ^ k : Nat) : Int) = ((x / 2 ^ k % 2 * 2 ^ k : Nat) : Int) := by
  rw [i64_and_nat _ _ hx (Nat.pow_lt_pow_right (by decide) hk), and_pow2]
theorem i64_low (x k : Nat) (hx : x < 2 ^ 63) (hk : k < 63) : bits .and .i64 (x : Int) ((2 ^ k - 1 : Nat) : Int) = ((x % 2 ^ k : Nat) : Int) := by
  rw [i64_and_nat _ _ hx (Nat.lt_of_le_of_lt (Nat.sub_le _ _) (Nat.pow_lt_pow_right (by decide) hk)), Nat.and_two_pow_sub_one_eq_mod]
theorem and_form (x : Nat) (hx : x < 4294967296) : x &&& 18446744073709535488 = x / 16384 * 16384 + x / 256 % 2 * 256 := by
  have h1 : (x &&& 18446744073709535488) / 2 ^ 14 = x / 16384 := by
    rw [Nat.and_div_two_pow]
    show (x / 16384) &&& (2 ^ 50 - 1) = _
    rw [Nat.and_two_pow_sub_one_eq_mod, Nat.mod_eq_of_lt (by omega)]
  have h2 : (x &&& 18446744073709535488) % 2 ^ 14 = x / 256 % 2 * 256 := by
    rw [Nat.and_mod_two_pow]
    show (x % 16384) &&& 2 ^ 8 = _
    rw [and_pow2]
    show x % 16384 / 256 % 2 * 256 = _
    omega
  have h3 := Nat.div_add_mod (x &&& 18446744073709535488) (2 ^ 14)
  rw [h1, h2] at h3
  omega
theorem andNot_form (x : Nat) (hx : x < 4294967296) : bits .andNot .i64 (x : Int) 16127 = ((x / 16384 * 16384 + x / 256 % 2 * 256 : Nat) : Int) := by
  show IntKind.i64.wrap ((BitVec.ofInt 64 (x : Int) &&& ~~~ BitVec.ofInt 64 16127).toNat : Int) = _
  rw [BitVec.toNat_and, BitVec.toNat_not, ofInt_i64 x (by omega)]
  show IntKind.i64.wrap ((x &&& 18446744073709535488 : Nat) : Int) = _
  rw [and_form x hx, wrap_i64_in _ (by omega) (by omega)]
theorem or_nat (h x k : Nat) (hx : x < 2 ^ k) : (h * 2 ^ k) ||| x = h * 2 ^ k + x := by
  have h3 := Nat.shiftLeft_add_eq_or_of_lt hx h
  rw [Nat.shiftLeft_eq] at h3
  exact h3.symm
/-- what Guard answers -/
def guE (cr ha : Int) : Nat := if kwB cr 0 1023 && kwB ha 1 127 then 0 else 2
def guX (cr ha z : Int) : Int := if kwB cr 0 1023 && kwB ha 1 127 then z else 0
set_option maxHeartbeats 4000000 in
theorem guard_any (cr ha : Int) (w : World) : Calls Try.prog 8 #[.int .i64 cr, .int .i64 ha] w fun e w' => e = .returned (.tuple #[.agg (gtA (guX cr ha cr) 0 (guX cr ha ha) false false false 0), .int .i64 (guE cr ha : Nat)]) ∧ w.grownBy w' none := by
  have h0 := fun wz => gmay_any cr 0 ha false false false 0 wz
  have e : gtB cr 0 ha 0 = (kwB cr 0 1023 && kwB ha 1 127) := by
    unfold gtB
    rw [show kwB 0 0 255 = true from rfl, show kwB 0 0 3 = true from rfl, Bool.and_true, Bool.and_true]
  rw [e] at h0
  have b0 := BxS.new w 28 (gtA 0 0 0 false false false 0)
  have g0 := World.grownBy_alloc w (.cells (gtA 0 0 0 false false false 0) 28) none
  have i7 := Try.info_gt
  unfold guX guE
  generalize (kwB cr 0 1023 && kwB ha 1 127) = b at h0 ⊢
  unfold gtA at h0 b0 g0 ⊢
  generalize hw0 : w.alloc (.cells #[.int .i64 0, .int .i64 0, .int .i64 0, .bool false, .bool false, .bool false, .int .i64 0] 28) = w0 at b0 g0
  have b1 := BxS.new w0 28 #[.int .i64 cr, .int .i64 0, .int .i64 ha, .bool false, .bool false, .bool false, .int .i64 0]
  have g1 := World.grownBy_alloc w0 (.cells #[.int .i64 cr, .int .i64 0, .int .i64 ha, .bool false, .bool false, .bool false, .int .i64 0] 28) none
  have t1 : True := trivial
  cases b
  · go_enter Try.func8, Try.ntmps8
    go_wp2_with (first
      | (go_at_call 15; have _t := t1; clear t1; refine (h0 _).mono ?_; rintro e w2 ⟨rfl, g2⟩; have b2 := (b0.keep g1 (by simp)).keep g2 (by simp); have t2 : True := trivial)
      | (have _t := t2; refine wpList_stX _ rfl _ (.tmp 4) (.tmp 13) rfl w.heap.size _ _ rfl rfl b2 i7 rfl (by simp [Value.oneCell']) ?_; clear t2; intro w9 b9 g9))
    refine bodyPost_ret (results_cell1t rfl _ _ _ ⟨w.heap.size, 0, none⟩ _ (.int .i64 2) rfl (BxS.load (t := 28) b9 Try.underlying28 Try.info_gt) rfl) rfl ?_
    exact ⟨rfl, grown_far (grown_trans (grown_trans g0 g1) g2) g9 (fun q e => by cases e; exact Nat.le_refl _)⟩
  · go_enter Try.func8, Try.ntmps8
    go_wp2_with (first
      | (go_at_call 15; have _t := t1; clear t1; refine (h0 _).mono ?_; rintro e w2 ⟨rfl, g2⟩; have b2 := (b0.keep g1 (by simp)).keep g2 (by simp); obtain ⟨d0, d1, d2, d3, d4, d5, d6⟩ := (b1.keep g2 (by simp)).cell7; have t2 : True := trivial)
      | (have _t := t2; refine wpList_stX _ rfl _ (.tmp 4) (.tmp 14) rfl w.heap.size _ _ rfl rfl b2 i7 rfl (by simp [Value.oneCell']) ?_; clear t2; intro w9 b9 g9))
    refine bodyPost_ret (results_cell1t rfl _ _ _ ⟨w.heap.size, 0, none⟩ _ (.int .i64 0) rfl (BxS.load (t := 28) b9 Try.underlying28 Try.info_gt) rfl) rfl ?_
    exact ⟨rfl, grown_far (grown_trans (grown_trans g0 g1) g2) g9 (fun q e => by cases e; exact Nat.le_refl _)⟩
end

section
theorem Roomy.ans {w : World} {g n lo : Nat} {L D : List Nat} (h : Roomy w g n L D) (hL : IsB L) (hl : L.length = n) (hn : n ≤ 140737488351232) (hlo : lo ≤ g) : Ans w lo (some ⟨g, 0, none⟩) n (n + 5) L := by
  refine ⟨⟨by rw [bys_length, hl, Nat.mul_one], .inr ⟨g, n + 5, (bys D).toArray, rfl, Nat.zero_le _, h.blk, by omega, by unfold maxLen; omega, by simp [bys_length, h.len], ?_⟩⟩, hL, fun x hx => ?_⟩
  · simp only [Nat.mul_one, List.toList_toArray]
    apply List.ext_getElem?
    intro i
    by_cases hi : i < n
    · rw [List.getElem?_take, if_pos hi, nth_bys D i (by rw [h.len]; omega), nth_bys L i (by omega), h.own i hi]
    · rw [List.getElem?_eq_none (by simp [bys_length]; omega), List.getElem?_eq_none (by rw [bys_length]; omega)]
  · have e : g = x := Option.some.inj hx
    omega
end

section
/-- an order, cell by cell -/
def orA (cr : Int) (bp co : Bool) (sq : Int) (a : Option Addr) (n c : Nat) : Array Value := #[.int .i64 cr, .bool bp, .bool co, .int .i64 sq, .slice a n c]
theorem Try.info_or : (Try.prog.info? 62).map (fun i => i.size) = some 5 := by kernel_rfl
/-- why an order may not be (0: it may) -/
def orE (cr : Int) (bp co : Bool) (sq : Int) (n : Nat) : Nat := if kwB cr 0 1023 && kwB sq 0 255 then (if co && !bp then 6 else (if kwB n 1 1017 then 0 else 1)) else 2
theorem orE_ok {cr : Int} {bp co : Bool} {sq : Int} {n : Nat} (h : orE cr bp co sq n = 0) : (0 ≤ cr ∧ cr ≤ 1023) ∧ (0 ≤ sq ∧ sq ≤ 255) ∧ (co && !bp) = false ∧ 1 ≤ n ∧ n ≤ 1017 := by
  unfold orE at h
  cases h1 : (kwB cr 0 1023 && kwB sq 0 255) with
  | false => rw [h1] at h; simp at h
  | true =>
    rw [h1, if_pos rfl] at h
    cases h2 : (co && !bp) with
    | true => rw [h2] at h; simp at h
    | false =>
      rw [h2, if_neg (by decide)] at h
      cases h3 : kwB n 1 1017 with
      | false => rw [h3] at h; simp at h
      | true =>
        have a := Bool.and_eq_true_iff.1 h1
        have b := kwB_ok h3
        exact ⟨kwB_ok a.1, kwB_ok a.2, rfl, by omega, by omega⟩
set_option maxHeartbeats 2000000 in
theorem wkind_any (cr : Int) (bp co : Bool) (sq : Int) (a : Option Addr) (n c : Nat) (w : World) : Calls Try.prog 38 #[.agg (orA cr bp co sq a n c)] w fun e w' => e = .returned (.bool (co && !bp)) ∧ w.grownBy w' none := by
  unfold orA
  have gA := World.grownBy_alloc w (.cells #[.int .i64 cr, .bool bp, .bool co, .int .i64 sq, .slice a n c] 62) none
  cases bp <;> cases co
  all_goals
    go_enter Try.func38, Try.ntmps38
    go_wp2
    go_ret
    exact ⟨rfl, gA⟩
theorem size_any (a : Option Addr) (n c : Nat) (w : World) : Calls Try.prog 18 #[.slice a n c] w fun e w' => e = .returned (.bool (kwB n 1 1017)) ∧ w' = w := by
  have h0 := fun wz => kwithin_any n 1 1017 wz
  generalize kwB n 1 1017 = b at h0 ⊢
  go_enter Try.func18, Try.ntmps18
  go_wp2_with (first
    | (go_at_call 25; refine (h0 _).mono ?_; rintro e wx ⟨rfl, hw⟩; have hw := hw.symm; subst hw))
  go_ret
  exact ⟨rfl, rfl⟩
set_option maxHeartbeats 8000000 in
theorem worder_any (cr : Int) (bp co : Bool) (sq : Int) (a : Option Addr) (n c : Nat) (w : World) : Calls Try.prog 39 #[.agg (orA cr bp co sq a n c)] w fun e w' => e = .returned (.int .i64 (orE cr bp co sq n : Nat)) ∧ w.grownBy w' none := by
  have h0 := fun wz => kwithin_any cr 0 1023 wz
  have h1 := fun wz => kwithin_any sq 0 255 wz
  have h2 := fun wz => wkind_any cr bp co sq a n c wz
  have h3 := fun wz => size_any a n c wz
  have b0 := BxS.new w 62 (orA cr bp co sq a n c)
  have g0 := World.grownBy_alloc w (.cells (orA cr bp co sq a n c) 62) none
  unfold orE
  unfold orA at h2 b0 g0 ⊢
  generalize hw0 : w.alloc (.cells #[.int .i64 cr, .bool bp, .bool co, .int .i64 sq, .slice a n c] 62) = w0 at b0 g0
  obtain ⟨c0, c1, c2, c3, c4⟩ := b0.cell5
  generalize kwB cr 0 1023 = x0 at h0 ⊢
  generalize kwB sq 0 255 = x1 at h1 ⊢
  generalize (co && !bp) = x2 at h2 ⊢
  generalize kwB n 1 1017 = x3 at h3 ⊢
  have t1 : True := trivial
  cases x0
  · go_enter Try.func39, Try.ntmps39
    go_wp2_with (first
      | (go_at_call 25; have _t := t1; clear t1; refine (h0 _).mono ?_; rintro e wx ⟨rfl, hw⟩; have hw := hw.symm; subst hw))
    go_ret
    exact ⟨rfl, g0⟩
  cases x1
  · go_enter Try.func39, Try.ntmps39
    go_wp2_with (first
      | (go_at_call 25; have _t := t1; clear t1; refine (h0 _).mono ?_; rintro e wx ⟨rfl, hw⟩; have hw := hw.symm; subst hw; have t2 : True := trivial)
      | (go_at_call 25; have _t := t2; clear t2; refine (h1 _).mono ?_; rintro e wx ⟨rfl, hw⟩; have hw := hw.symm; subst hw))
    go_ret
    exact ⟨rfl, g0⟩
  cases x2
  · cases x3
    all_goals
      go_enter Try.func39, Try.ntmps39
      go_wp2_with (first
        | (go_at_call 25; have _t := t1; clear t1; refine (h0 _).mono ?_; rintro e wx ⟨rfl, hw⟩; have hw := hw.symm; subst hw; have t2 : True := trivial)
        | (go_at_call 25; have _t := t2; clear t2; refine (h1 _).mono ?_; rintro e wx ⟨rfl, hw⟩; have hw := hw.symm; subst hw)
        | (go_at_call 38; refine (h2 _).mono ?_; rintro e w2 ⟨rfl, g2⟩; clear c0 c1 c2 c3 c4; obtain ⟨c0, c1, c2, c3, c4⟩ := (b0.keep g2 (by simp)).cell5)
        | (go_at_call 18; refine (h3 _).mono ?_; rintro e wx ⟨rfl, hw⟩; have hw := hw.symm; subst hw))
      go_ret
      exact ⟨rfl, grown_trans g0 g2⟩
  · go_enter Try.func39, Try.ntmps39
    go_wp2_with (first
      | (go_at_call 25; have _t := t1; clear t1; refine (h0 _).mono ?_; rintro e wx ⟨rfl, hw⟩; have hw := hw.symm; subst hw; have t2 : True := trivial)
      | (go_at_call 25; have _t := t2; clear t2; refine (h1 _).mono ?_; rintro e wx ⟨rfl, hw⟩; have hw := hw.symm; subst hw)
      | (go_at_call 38; refine (h2 _).mono ?_; rintro e w2 ⟨rfl, g2⟩))
    go_ret
    exact ⟨rfl, grown_trans g0 g2⟩
end

section
theorem cell_grown {w w' : World} {b i : Nat} {r : Option Nat} {v : Value} (h : w.cell? ⟨b, i, none⟩ = some v) (hg : w.grownBy w' r) (hb : b < w.heap.size) (hne : some b ≠ r) : w'.cell? ⟨b, i, none⟩ = some v := by
  rw [← h]
  unfold World.cell?
  rw [hg.block b hb hne]
end

section
/-- bytes as they lie in memory, and what they are -/
structure Rw where
  a : Option Addr
  n : Nat
  c : Nat
  D : List Nat
/-- rows of bytes as they are read -/
structure RdR (w : World) (a : Option Addr) (n cap : Nat) (F : Nat → Rw) : Prop where
  le : n ≤ cap
  max : cap ≤ maxLen
  at' : 0 < n → ∃ b off, a = some ⟨b, off, none⟩ ∧ b < w.heap.size ∧ ∀ i, i < n → w.cell? ⟨b, off + i, none⟩ = some (.slice (F i).a (F i).n (F i).c)
  data : ∀ i, i < n → Rd w (F i).a (F i).n (F i).c (F i).D
theorem RdR.keep {w w' : World} {a : Option Addr} {n cap : Nat} {F : Nat → Rw} (h : RdR w a n cap F) (hg : w.grownBy w' none) : RdR w' a n cap F :=
  ⟨h.le, h.max, fun h0 => by
    obtain ⟨b, off, e, hb, hc⟩ := h.at' h0
    exact ⟨b, off, e, Nat.lt_of_lt_of_le hb hg.size, fun i hi => cell_grown (hc i hi) hg hb (by simp)⟩, fun i hi => (h.data i hi).keep hg⟩
/-- an ear as it lies in memory -/
structure Er where
  x : Int
  r : Rw
structure RdE (w : World) (a : Option Addr) (n cap : Nat) (F : Nat → Er) : Prop where
  le : n ≤ cap
  max : cap ≤ maxLen
  at' : 0 < n → ∃ b off, a = some ⟨b, off, none⟩ ∧ b < w.heap.size ∧ ∀ i, i < n → w.cell? ⟨b, off + i * 2, none⟩ = some (.int .i64 (F i).x) ∧ w.cell? ⟨b, off + i * 2 + 1, none⟩ = some (.slice (F i).r.a (F i).r.n (F i).r.c)
  data : ∀ i, i < n → Rd w (F i).r.a (F i).r.n (F i).r.c (F i).r.D
theorem RdE.keep {w w' : World} {a : Option Addr} {n cap : Nat} {F : Nat → Er} (h : RdE w a n cap F) (hg : w.grownBy w' none) : RdE w' a n cap F :=
  ⟨h.le, h.max, fun h0 => by
    obtain ⟨b, off, e, hb, hc⟩ := h.at' h0
    exact ⟨b, off, e, Nat.lt_of_lt_of_le hb hg.size, fun i hi => ⟨cell_grown (hc i hi).1 hg hb (by simp), cell_grown (hc i hi).2 hg hb (by simp)⟩⟩, fun i hi => (h.data i hi).keep hg⟩
end
end Go.Proofs.Ytlfacjpehhcdiaa
