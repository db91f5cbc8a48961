import Derived.Test.YtaigcjhachkmmaaDoorYTn
import Derived.Test.YtaigcjhachkmmaaDoorYEr
namespace Go.Proofs.YtaigcjhachkmmaaDoor
open Go.RowKit
set_option maxRecDepth 100000
set_option linter.unusedVariables false
set_option linter.unusedSimpArgs false

/-! the document's block: a row of numbers of the call's own -/
def lisN (n : Nat) (f : Nat → Nat) : List Int := (List.range n).map fun i => (f i : Int)
theorem lisN_len (n : Nat) (f : Nat → Nat) : (lisN n f).length = n := by simp [lisN]
theorem lisN_at (n : Nat) (f : Nat → Nat) (i : Nat) (h : i < n) : nthI (lisN n f) i = (f i : Int) := by
  unfold nthI lisN
  rw [List.getD_eq_getElem?_getD, List.getElem?_map, List.getElem?_range h]; rfl
theorem lisN_set (n : Nat) (f : Nat → Nat) (j x : Nat) : (lisN n f).set j (x : Int) = lisN n (updF f j x) := by
  apply List.ext_getElem?
  intro i
  rw [List.getElem?_set]
  by_cases e : j = i
  · subst e
    rw [if_pos rfl]
    by_cases hj : j < n
    · rw [if_pos (by rw [lisN_len]; exact hj)]
      unfold lisN updF
      rw [List.getElem?_map, List.getElem?_range hj]; simp
    · rw [if_neg (by rw [lisN_len]; exact hj), List.getElem?_eq_none (by rw [lisN_len]; omega)]
  · rw [if_neg e]
    unfold lisN updF
    rw [List.getElem?_map, List.getElem?_map]
    by_cases hi : i < n
    · rw [List.getElem?_range hi]; simp [Ne.symm e]
    · rw [List.getElem?_eq_none (by simp; omega)]; rfl
theorem lisN_congr (n : Nat) (f f' : Nat → Nat) (h : ∀ i, i < n → f i = f' i) : lisN n f = lisN n f' := by
  unfold lisN
  apply List.map_congr_left
  intro i hi
  rw [h i (List.mem_range.1 hi)]
structure QR (w : World) (lo g n cap : Nat) (f : Nat → Nat) : Prop where
  ans : AnsZ w lo (some ⟨g, 0, none⟩) n cap (lisN n f)
theorem QR.lt {w : World} {lo g n cap : Nat} {f : Nat → Nat} (h : QR w lo g n cap f) : g < w.heap.size := h.ans.lt g rfl
theorem QR.cell {w : World} {lo g n cap : Nat} {f : Nat → Nat} (h : QR w lo g n cap f) (j : Nat) (hj : j < n) : w.cell? ⟨g, j, none⟩ = some (.int .i64 (f j : Nat)) := by
  rw [h.ans.own.cellAt j (by omega), zys_at _ _ (by rw [lisN_len]; exact hj), lisN_at n f j hj]
theorem QR.free {w : World} {lo g n cap : Nat} {f : Nat → Nat} (h : QR w lo g n cap f) (j : Nat) : w.frozen? ⟨g, j, none⟩ = false := h.ans.own.frozenAt j
theorem QR.set {w : World} {lo g n cap : Nat} {f : Nat → Nat} (h : QR w lo g n cap f) (j x : Nat) : QR (w.setCell ⟨g, j, none⟩ (.int .i64 (x : Nat))) lo g n cap (updF f j x) := by
  have := (h.ans.own.stored j (.int .i64 (x : Int))).1
  have e : (zys (lisN n f)).set j (.int .i64 (x : Int)) = zys (lisN n (updF f j x)) := by
    rw [← lisN_set]; simp [zys, List.map_set]
  rw [e] at this
  exact ⟨⟨this, h.ans.new⟩⟩
theorem QR.kept {w w' : World} {lo g n cap : Nat} {f : Nat → Nat} {o : Option Nat} (h : QR w lo g n cap f) (hg : w.grownBy w' o) (hne : some g ≠ o) : QR w' lo g n cap f :=
  ⟨h.ans.kept hg (.inr (by simpa [Value.ownBlock] using hne))⟩
theorem QR.keep {w w' : World} {lo g n cap : Nat} {f : Nat → Nat} (h : QR w lo g n cap f) (hg : w.grownBy w' none) : QR w' lo g n cap f := h.kept hg (by simp)
theorem i64_or_nat (a b : Nat) (ha : a < 2 ^ 63) (hb : b < 2 ^ 63) : bits .or .i64 (a : Int) (b : Int) = ((a ||| b : Nat) : Int) := by
  have hx : a ||| b < 2 ^ 63 := Nat.or_lt_two_pow (by omega) (by omega)
  show IntKind.i64.wrap ((BitVec.ofInt 64 (a : Int) ||| BitVec.ofInt 64 (b : Int)).toNat : Int) = _
  rw [BitVec.toNat_or, ofInt_i64 a ha, ofInt_i64 b hb, wrap_i64_in _ (by omega) (by omega)]
theorem wrap64_nat (a : Nat) (ha : a < 2 ^ 63) : wrap64 (a : Int) = (a : Int) := by
  unfold wrap64; omega
theorem mask32 (a : Nat) (ha : a < 2 ^ 63) : bits .and .i64 (a : Int) 4294967295 = ((a % 4294967296 : Nat) : Int) := by
  have := i64_and_nat a 4294967295 ha (by decide)
  rw [show ((4294967295 : Nat) : Int) = 4294967295 from rfl] at this
  rw [this, Nat.and_two_pow_sub_one_eq_mod a 32]
theorem rturn_val (x k : Nat) (hx : x < 4294967296) (hk : k < 18) : bits .and .i64 (bits .or .i64 (wrap64 ((x : Int) * 2 ^ k)) ((x : Int) / 2 ^ (32 - k))) 4294967295 = ((rotN x k : Nat) : Int) := by
  have h0 : 2 ^ k ≤ 2 ^ 17 := Nat.pow_le_pow_right (by decide) (by omega)
  have h1 : (x : Int) * 2 ^ k = ((x * 2 ^ k : Nat) : Int) := by
    rw [Int.natCast_mul, Int.natCast_pow]; rfl
  have h2 : (x : Int) / 2 ^ (32 - k) = ((x / 2 ^ (32 - k) : Nat) : Int) := by
    rw [Int.natCast_ediv, Int.natCast_pow]; rfl
  have h3 : x / 2 ^ (32 - k) < 4294967296 := Nat.lt_of_le_of_lt (Nat.div_le_self _ _) hx
  have h4 : x * 2 ^ k < 2 ^ 63 := by
    have : x * 2 ^ k ≤ 4294967296 * 2 ^ 17 := Nat.mul_le_mul (by omega) h0
    omega
  have h5 : x * 2 ^ k ||| x / 2 ^ (32 - k) < 2 ^ 63 := Nat.or_lt_two_pow h4 (by omega)
  rw [h1, h2, wrap64_nat _ h4, i64_or_nat _ _ h4 (by omega), mask32 _ h5]
  unfold rotN
  rw [Nat.shiftLeft_eq, Nat.shiftRight_eq_div_pow]
theorem turned_any (x k : Nat) (hx : x < 4294967296) (hk : k < 18) (w : World) :
    Calls Tryd.prog 62 #[.int .i64 x, .int .i64 k] w fun e w' => e = .returned (.int .i64 (rotN x k : Nat)) ∧ ∃ m, w' = w.drewN m := by
  have e1 := rturn_val x k hx hk
  have i0 : (k : Int) < 64 := by omega
  have i1 : (0 : Int) ≤ 32 - (k : Int) := by omega
  have i3 : (0 : Int) ≤ (k : Int) := by omega
  go_enter Tryd.func62, Tryd.ntmps62
  go_wp2
  go_quiet (fail)
  go_wp2
  go_ret
  exact ⟨by simp [e1], nq, rfl⟩

set_option maxHeartbeats 8000000 in
theorem rstir_any (lo g cap a b c d : Nat) (f0 : Nat → Nat) (w0 : World) (q0 : QR w0 lo g 16 cap f0) (m0 : Is32 f0) (ha : a < 16) (hb : b < 16) (hc : c < 16) (hd : d < 16) :
    Calls Tryd.prog 53 #[.slice (some ⟨g, 0, none⟩) 16 cap, .int .i64 a, .int .i64 b, .int .i64 c, .int .i64 d] w0 fun e w' => e = .returned (.tuple #[]) ∧ QR w' lo g 16 cap (stiF f0 a b c d) ∧ w0.grownBy w' (some g) := by
  have ia : (a : Int) < 16 := by omega
  have ib : (b : Int) < 16 := by omega
  have ic : (c : Int) < 16 := by omega
  have id' : (d : Int) < 16 := by omega
  have G0 : w0.grownBy w0 (some g) := World.grownBy.refl _ _
  go_enter Tryd.func53, Tryd.ntmps53
  have c1 := q0.cell a ha
  have c2 := q0.cell b hb
  have fr1 := q0.free a
  have b1 := m0 a
  have b2 := m0 b
  obtain ⟨v, hv⟩ : ∃ v, v = (f0 a + f0 b) % 4294967296 := ⟨_, rfl⟩
  have e1 : bits .and .i64 ((f0 a : Int) + (f0 b : Int)) 4294967295 = (v : Int) := by
    rw [hv, ← mask32 _ (by omega)]; rfl
  have HV1 : Hid (v = (f0 a + f0 b) % 4294967296) := hv
  have hv2 : v < 4294967296 := by omega
  clear hv
  go_wp2
  go_region
  have q1' : QR (w0.setCell ⟨g, a, none⟩ (.int .i64 (v : Nat))).drew lo g 16 cap (updF f0 a v) := (q0.set a v).keep (grown_drew _ _)
  have G1 : w0.grownBy (w0.setCell ⟨g, a, none⟩ (.int .i64 (v : Nat))).drew (some g) := grown_trans G0 (grown_trans (grown_set _ _ _ _) (grown_drew _ _))
  have m1' : Is32 (updF f0 a v) := m0.upd _ _ hv2
  clear c1 c2 fr1 b1 b2 e1
  obtain ⟨w1, hw1⟩ : ∃ w1, w1 = (w0.setCell ⟨g, a, none⟩ (.int .i64 (v : Nat))).drew := ⟨_, rfl⟩
  obtain ⟨f1, hf1⟩ : ∃ f1, f1 = updF f0 a v := ⟨_, rfl⟩
  have HF1 : Hid (f1 = updF f0 a v) := hf1
  rw [← hw1] at q1' G1 ⊢
  rw [← hf1] at q1' m1'
  have q1 := q1'
  have m1 := m1'
  clear q1' m1' hw1 hf1 hv2
  have c3 := q1.cell d hd
  have c4 := q1.cell a ha
  have fr3 := q1.free d
  have b3 := m1 d
  have b4 := m1 a
  have hx : f1 d ^^^ f1 a < 4294967296 := Nat.xor_lt_two_pow (n := 32) b3 b4
  have e3 : bits .xor .i64 (f1 d : Nat) (f1 a : Nat) = ((f1 d ^^^ f1 a : Nat) : Int) := i64_xor_nat _ _ (by omega) (by omega)
  go_wp2
  go_cut [] (fun wx => QR wx lo g 16 cap (updF f1 d (rotN (f1 d ^^^ f1 a) 13)) ∧ w0.grownBy wx (some g))
  case first =>
    go_region_with (go_at_call 62; refine (turned_any _ 13 hx (by decide) _).mono ?_; rintro e w' ⟨rfl, mm, rfl⟩)
    all_goals go_wp2_with fail
    all_goals go_meet
    all_goals exact ⟨(q1.keep (grown_drewN _ _ _)).set _ _, grown_trans G1 (grown_trans (grown_drewN _ _ _) (grown_set _ _ _ _))⟩
  case rest =>
    obtain ⟨q2', G2⟩ := hcut
    have m2' : Is32 (updF f1 d (rotN (f1 d ^^^ f1 a) 13)) := m1.upd _ _ (rotN_lt _ _)
    obtain ⟨f2, hf2⟩ : ∃ f2, f2 = updF f1 d (rotN (f1 d ^^^ f1 a) 13) := ⟨_, rfl⟩
    have HF2 : Hid (f2 = updF f1 d (rotN (f1 d ^^^ f1 a) 13)) := hf2
    rw [← hf2] at q2' m2'
    clear c3 c4 fr3 b3 b4 hx e3 G1 q1 m1 hf2
    have q2 := q2'
    have m2 := m2'
    clear q2' m2'
    obtain ⟨w2, hw2⟩ : ∃ w2, w2 = wc := ⟨_, rfl⟩
    rw [← hw2] at q2 G2 ⊢
    clear hw2 wc
    have c1 := q2.cell c hc
    have c2 := q2.cell d hd
    have fr1 := q2.free c
    have b1 := m2 c
    have b2 := m2 d
    obtain ⟨v, hv⟩ : ∃ v, v = (f2 c + f2 d) % 4294967296 := ⟨_, rfl⟩
    have e1 : bits .and .i64 ((f2 c : Int) + (f2 d : Int)) 4294967295 = (v : Int) := by
      rw [hv, ← mask32 _ (by omega)]; rfl
    have HV3 : Hid (v = (f2 c + f2 d) % 4294967296) := hv
    have hv2 : v < 4294967296 := by omega
    clear hv
    go_wp2
    go_region
    have q3' : QR (w2.setCell ⟨g, c, none⟩ (.int .i64 (v : Nat))).drew lo g 16 cap (updF f2 c v) := (q2.set c v).keep (grown_drew _ _)
    have G3 : w0.grownBy (w2.setCell ⟨g, c, none⟩ (.int .i64 (v : Nat))).drew (some g) := grown_trans G2 (grown_trans (grown_set _ _ _ _) (grown_drew _ _))
    have m3' : Is32 (updF f2 c v) := m2.upd _ _ hv2
    clear c1 c2 fr1 b1 b2 e1 G2 q2 m2
    obtain ⟨w3, hw3⟩ : ∃ w3, w3 = (w2.setCell ⟨g, c, none⟩ (.int .i64 (v : Nat))).drew := ⟨_, rfl⟩
    obtain ⟨f3, hf3⟩ : ∃ f3, f3 = updF f2 c v := ⟨_, rfl⟩
    have HF3 : Hid (f3 = updF f2 c v) := hf3
    rw [← hw3] at q3' G3 ⊢
    rw [← hf3] at q3' m3'
    have q3 := q3'
    have m3 := m3'
    clear q3' m3' hw3 hf3 hv2
    have c3 := q3.cell b hb
    have c4 := q3.cell c hc
    have fr3 := q3.free b
    have b3 := m3 b
    have b4 := m3 c
    have hx : f3 b ^^^ f3 c < 4294967296 := Nat.xor_lt_two_pow (n := 32) b3 b4
    have e3 : bits .xor .i64 (f3 b : Nat) (f3 c : Nat) = ((f3 b ^^^ f3 c : Nat) : Int) := i64_xor_nat _ _ (by omega) (by omega)
    go_wp2
    go_cut [] (fun wx => QR wx lo g 16 cap (updF f3 b (rotN (f3 b ^^^ f3 c) 9)) ∧ w0.grownBy wx (some g))
    case first =>
      go_region_with (go_at_call 62; refine (turned_any _ 9 hx (by decide) _).mono ?_; rintro e w' ⟨rfl, mm, rfl⟩)
      all_goals go_wp2_with fail
      all_goals go_meet
      all_goals exact ⟨(q3.keep (grown_drewN _ _ _)).set _ _, grown_trans G3 (grown_trans (grown_drewN _ _ _) (grown_set _ _ _ _))⟩
    case rest =>
      obtain ⟨q4', G4⟩ := hcut
      have m4' : Is32 (updF f3 b (rotN (f3 b ^^^ f3 c) 9)) := m3.upd _ _ (rotN_lt _ _)
      obtain ⟨f4, hf4⟩ : ∃ f4, f4 = updF f3 b (rotN (f3 b ^^^ f3 c) 9) := ⟨_, rfl⟩
      have HF4 : Hid (f4 = updF f3 b (rotN (f3 b ^^^ f3 c) 9)) := hf4
      rw [← hf4] at q4' m4'
      clear c3 c4 fr3 b3 b4 hx e3 G3 q3 m3 hf4
      have q4 := q4'
      have m4 := m4'
      clear q4' m4'
      obtain ⟨w4, hw4⟩ : ∃ w4, w4 = wc := ⟨_, rfl⟩
      rw [← hw4] at q4 G4 ⊢
      clear hw4 wc
      have c1 := q4.cell a ha
      have c2 := q4.cell b hb
      have fr1 := q4.free a
      have b1 := m4 a
      have b2 := m4 b
      obtain ⟨v, hv⟩ : ∃ v, v = (f4 a + f4 b) % 4294967296 := ⟨_, rfl⟩
      have e1 : bits .and .i64 ((f4 a : Int) + (f4 b : Int)) 4294967295 = (v : Int) := by
        rw [hv, ← mask32 _ (by omega)]; rfl
      have HV5 : Hid (v = (f4 a + f4 b) % 4294967296) := hv
      have hv2 : v < 4294967296 := by omega
      clear hv
      go_wp2
      go_region
      have q5' : QR (w4.setCell ⟨g, a, none⟩ (.int .i64 (v : Nat))).drew lo g 16 cap (updF f4 a v) := (q4.set a v).keep (grown_drew _ _)
      have G5 : w0.grownBy (w4.setCell ⟨g, a, none⟩ (.int .i64 (v : Nat))).drew (some g) := grown_trans G4 (grown_trans (grown_set _ _ _ _) (grown_drew _ _))
      have m5' : Is32 (updF f4 a v) := m4.upd _ _ hv2
      clear c1 c2 fr1 b1 b2 e1 G4 q4 m4
      obtain ⟨w5, hw5⟩ : ∃ w5, w5 = (w4.setCell ⟨g, a, none⟩ (.int .i64 (v : Nat))).drew := ⟨_, rfl⟩
      obtain ⟨f5, hf5⟩ : ∃ f5, f5 = updF f4 a v := ⟨_, rfl⟩
      have HF5 : Hid (f5 = updF f4 a v) := hf5
      rw [← hw5] at q5' G5 ⊢
      rw [← hf5] at q5' m5'
      have q5 := q5'
      have m5 := m5'
      clear q5' m5' hw5 hf5 hv2
      have c3 := q5.cell d hd
      have c4 := q5.cell a ha
      have fr3 := q5.free d
      have b3 := m5 d
      have b4 := m5 a
      have hx : f5 d ^^^ f5 a < 4294967296 := Nat.xor_lt_two_pow (n := 32) b3 b4
      have e3 : bits .xor .i64 (f5 d : Nat) (f5 a : Nat) = ((f5 d ^^^ f5 a : Nat) : Int) := i64_xor_nat _ _ (by omega) (by omega)
      go_wp2
      go_cut [] (fun wx => QR wx lo g 16 cap (updF f5 d (rotN (f5 d ^^^ f5 a) 17)) ∧ w0.grownBy wx (some g))
      case first =>
        go_region_with (go_at_call 62; refine (turned_any _ 17 hx (by decide) _).mono ?_; rintro e w' ⟨rfl, mm, rfl⟩)
        all_goals go_wp2_with fail
        all_goals go_meet
        all_goals exact ⟨(q5.keep (grown_drewN _ _ _)).set _ _, grown_trans G5 (grown_trans (grown_drewN _ _ _) (grown_set _ _ _ _))⟩
      case rest =>
        obtain ⟨q6', G6⟩ := hcut
        have m6' : Is32 (updF f5 d (rotN (f5 d ^^^ f5 a) 17)) := m5.upd _ _ (rotN_lt _ _)
        obtain ⟨f6, hf6⟩ : ∃ f6, f6 = updF f5 d (rotN (f5 d ^^^ f5 a) 17) := ⟨_, rfl⟩
        have HF6 : Hid (f6 = updF f5 d (rotN (f5 d ^^^ f5 a) 17)) := hf6
        rw [← hf6] at q6' m6'
        clear c3 c4 fr3 b3 b4 hx e3 G5 q5 m5 hf6
        have q6 := q6'
        have m6 := m6'
        clear q6' m6'
        obtain ⟨w6, hw6⟩ : ∃ w6, w6 = wc := ⟨_, rfl⟩
        rw [← hw6] at q6 G6 ⊢
        clear hw6 wc
        have c1 := q6.cell c hc
        have c2 := q6.cell d hd
        have fr1 := q6.free c
        have b1 := m6 c
        have b2 := m6 d
        obtain ⟨v, hv⟩ : ∃ v, v = (f6 c + f6 d) % 4294967296 := ⟨_, rfl⟩
        have e1 : bits .and .i64 ((f6 c : Int) + (f6 d : Int)) 4294967295 = (v : Int) := by
          rw [hv, ← mask32 _ (by omega)]; rfl
        have HV7 : Hid (v = (f6 c + f6 d) % 4294967296) := hv
        have hv2 : v < 4294967296 := by omega
        clear hv
        go_wp2
        go_region
        have q7' : QR (w6.setCell ⟨g, c, none⟩ (.int .i64 (v : Nat))).drew lo g 16 cap (updF f6 c v) := (q6.set c v).keep (grown_drew _ _)
        have G7 : w0.grownBy (w6.setCell ⟨g, c, none⟩ (.int .i64 (v : Nat))).drew (some g) := grown_trans G6 (grown_trans (grown_set _ _ _ _) (grown_drew _ _))
        have m7' : Is32 (updF f6 c v) := m6.upd _ _ hv2
        clear c1 c2 fr1 b1 b2 e1 G6 q6 m6
        obtain ⟨w7, hw7⟩ : ∃ w7, w7 = (w6.setCell ⟨g, c, none⟩ (.int .i64 (v : Nat))).drew := ⟨_, rfl⟩
        obtain ⟨f7, hf7⟩ : ∃ f7, f7 = updF f6 c v := ⟨_, rfl⟩
        have HF7 : Hid (f7 = updF f6 c v) := hf7
        rw [← hw7] at q7' G7 ⊢
        rw [← hf7] at q7' m7'
        have q7 := q7'
        have m7 := m7'
        clear q7' m7' hw7 hf7 hv2
        have c3 := q7.cell b hb
        have c4 := q7.cell c hc
        have fr3 := q7.free b
        have b3 := m7 b
        have b4 := m7 c
        have hx : f7 b ^^^ f7 c < 4294967296 := Nat.xor_lt_two_pow (n := 32) b3 b4
        have e3 : bits .xor .i64 (f7 b : Nat) (f7 c : Nat) = ((f7 b ^^^ f7 c : Nat) : Int) := i64_xor_nat _ _ (by omega) (by omega)
        go_wp2
        go_region_with (go_at_call 62; refine (turned_any _ 5 hx (by decide) _).mono ?_; rintro e w' ⟨rfl, mm, rfl⟩)
        all_goals
          go_wp2
          go_end0
          have e9 : stiF f0 a b c d = updF f7 b (rotN (f7 b ^^^ f7 c) 5) := by
            rw [HF7.out, HV7.out, HF6.out, HF5.out, HV5.out, HF4.out, HF3.out, HV3.out, HF2.out, HF1.out, HV1.out]
            rfl
          rw [e9]
          exact ⟨rfl, (q7.keep (grown_drewN _ _ _)).set _ _, grown_trans G7 (grown_trans (grown_drewN _ _ _) (grown_set _ _ _ _))⟩

/-- 'append([]int(nil), x...)' and the like, of one's own rows -/
theorem cells_rdI {w : World} {a : Addr} {n cap : Nat} {S : List Int} (h : RdI w (some a) n cap S) (h0 : 0 < n) : ∀ j u, (zys S)[j]? = some u → w.cell? (a.add j) = some u := by
  obtain ⟨b, off, e, hbw, hcc⟩ := h.at' h0
  cases e
  intro j u hu
  have hj : j < S.length := by
    have := (List.getElem?_eq_some_iff.1 hu).1
    rw [zys_length] at this; exact this
  rw [zys_at S j hj] at hu
  rw [← hu, addr_add]
  exact hcc j (by rw [← h.len]; exact hj)
theorem four_cells (w : World) (x y z v : Value) (e : TypeId) (j : Nat) (u : Value) (h : [x, y, z, v][j]? = some u) : (w.alloc (.cells #[x, y, z, v] e)).cell? ((⟨w.heap.size, 0, none⟩ : Addr).add j) = some u := by
  rw [addr_add, cell_of_row _ _ _ _ _ _ (heap_alloc_new w _)]
  simpa using h
theorem four_own (w : World) (x y z v : Value) : (w.alloc (.cells #[x, y, z, v] 3)).ownsRow 0 3 1 (.slice (some ⟨w.heap.size, 0, none⟩) 4 4) 4 [x, y, z, v] :=
  ⟨rfl, .inr ⟨w.heap.size, 4, #[x, y, z, v], rfl, Nat.zero_le _, heap_alloc_new w _, Nat.le_refl _, by decide, rfl, rfl⟩⟩
theorem words_list {S : List Int} {W : Nat → Nat} (hl : S.length = 8) (hW : ∀ i, i < 8 → nthI S i = (W i : Int)) : S = lisN 8 W := by
  apply List.ext_getElem?
  intro i
  by_cases hi : i < 8
  · have h1 := hW i hi
    have h2 := lisN_at 8 W i hi
    unfold nthI at h1 h2
    rw [List.getD_eq_getElem?_getD, List.getElem?_eq_getElem (by omega)] at h1
    rw [List.getD_eq_getElem?_getD, List.getElem?_eq_getElem (by rw [lisN_len]; omega)] at h2
    rw [List.getElem?_eq_getElem (by omega), List.getElem?_eq_getElem (by rw [lisN_len]; omega)]
    simp only [Option.getD_some] at h1 h2
    rw [h1, h2]
  · rw [List.getElem?_eq_none (by omega), List.getElem?_eq_none (by rw [lisN_len]; omega)]
theorem sq_list (W : Nat → Nat) (c x : Nat) : [Value.int IntKind.i64 1752326502, Value.int IntKind.i64 745302369, Value.int IntKind.i64 2036689696, Value.int IntKind.i64 1684107296] ++ zys (lisN 8 W) ++ [.int .i64 (x : Nat), .int .i64 (c % 4294967296 : Nat), .int .i64 (c / 4294967296 : Nat), .int .i64 0] = zys (lisN 16 (sq0 W c x)) := rfl
def padT (W : Nat → Nat) (c x m : Nat) : List Nat := (List.range m).map (padB W c x)
theorem padT_four (W : Nat → Nat) (c x m : Nat) : padT W c x (m + 4) = padT W c x m ++ [padB W c x m, padB W c x (m + 1), padB W c x (m + 2), padB W c x (m + 3)] := by
  unfold padT
  rw [List.range_succ, List.range_succ, List.range_succ, List.range_succ]
  simp
theorem padT_byte (W : Nat → Nat) (c x m : Nat) : IsB (padT W c x m) := by
  intro y hy
  obtain ⟨i, _, rfl⟩ := List.mem_map.1 hy
  exact Nat.mod_lt _ (by decide)
theorem blE_ok {S : List Int} {W : Nat → Nat} {z x : Int} (hW : ∀ i, i < 8 → nthI S i = (W i : Int) ∧ W i < 4294967296) (hz : 0 ≤ z ∧ z ≤ 281474976710655) (hx : 0 ≤ x ∧ x ≤ 1000) : blE 8 S z x = 0 := by
  have h1 : wdB S = true := wdB_t (fun i hi => by have := hW i hi; omega)
  have h2 : wdE 8 S = 0 := by unfold wdE; rw [if_pos rfl, h1]; rfl
  unfold blE
  rw [if_pos h2, if_pos ⟨kwB_t hz, kwB_t hx⟩]
theorem pad_byte {W f : Nat → Nat} {c x q s : Nat} (HB : ∀ i, padB W c x i = ((rndN f 6 (i / 4) + f (i / 4)) % 4294967296) >>> (i % 4 * 8) % 256) (hs : s = rndN f 6 q + f q) (j : Nat) (hj : j < 4) : padB W c x (4 * q + j) = (s % 4294967296) / 2 ^ (j * 8) % 256 := by
  have e1 : (4 * q + j) / 4 = q := by omega
  have e2 : (4 * q + j) % 4 = j := by omega
  rw [HB, e1, e2, hs, Nat.shiftRight_eq_div_pow]
theorem pad_quad {W f : Nat → Nat} {c x q s : Nat} (HB : ∀ i, padB W c x i = ((rndN f 6 (i / 4) + f (i / 4)) % 4294967296) >>> (i % 4 * 8) % 256) (hs : s = rndN f 6 q + f q) : padT W c x (4 * q) ++ [s % 256, s / 256 % 256, s / 65536 % 256, s / 16777216 % 256] = padT W c x (4 * (q + 1)) := by
  rw [show 4 * (q + 1) = 4 * q + 4 by omega, padT_four]
  have z0 : padB W c x (4 * q) = s % 256 := by
    have : padB W c x (4 * q) = s % 4294967296 / 1 % 256 := pad_byte HB hs 0 (by decide)
    omega
  have z1 : padB W c x (4 * q + 1) = s / 256 % 256 := by
    have : padB W c x (4 * q + 1) = s % 4294967296 / 256 % 256 := pad_byte HB hs 1 (by decide)
    omega
  have z2 : padB W c x (4 * q + 2) = s / 65536 % 256 := by
    have : padB W c x (4 * q + 2) = s % 4294967296 / 65536 % 256 := pad_byte HB hs 2 (by decide)
    omega
  have z3 : padB W c x (4 * q + 3) = s / 16777216 % 256 := by
    have : padB W c x (4 * q + 3) = s % 4294967296 / 16777216 % 256 := pad_byte HB hs 3 (by decide)
    omega
  rw [z0, z1, z2, z3]
set_option maxHeartbeats 8000000 in
theorem pad_ok (a : Option Addr) (cap c x : Nat) (S : List Int) (W : Nat → Nat) (w : World) (hp : RdI w a 8 cap S) (hW : ∀ i, i < 8 → nthI S i = (W i : Int) ∧ W i < 4294967296) (hc : c < 281474976710656) (hx : x < 1001) :
    Calls Tryd.prog 37 #[.slice a 8 cap, .int .i64 c, .int .i64 x] w fun e w' => ∃ a' c', e = .returned (.tuple #[.slice a' 64 c', .int .i64 0]) ∧ Ans w' w.heap.size a' 64 c' (padL W c x) ∧ w.grownBy w' none := by
  have he : blE 8 S c x = 0 := blE_ok hW (by omega) (by omega)
  have hs32 : Is32 (sq0 W c x) := sq0_32 W c x (fun i hi => (hW i hi).2) (by omega) (by omega)
  have hS := words_list hp.len (fun i hi => (hW i hi).1)
  subst hS
  obtain ⟨b, off, rfl, hbw, hcc⟩ := hp.at' (by decide)
  have t1 : True := trivial
  have m1 : bits .and .i64 (c : Int) 4294967295 = ((c % 4294967296 : Nat) : Int) := mask32 c (by omega)
  have v2 : (c : Int) / 4294967296 = ((c / 4294967296 : Nat) : Int) := by omega
  have HSQ : Hid ([Value.int IntKind.i64 1752326502, Value.int IntKind.i64 745302369, Value.int IntKind.i64 2036689696, Value.int IntKind.i64 1684107296] ++ zys (lisN 8 W) ++ [.int .i64 (x : Nat), .int .i64 (c % 4294967296 : Nat), .int .i64 (c / 4294967296 : Nat), .int .i64 0] = zys (lisN 16 (sq0 W c x))) := sq_list W c x
  obtain ⟨f, hf⟩ : ∃ f, f = sq0 W c x := ⟨_, rfl⟩
  have HF : Hid (f = sq0 W c x) := hf
  rw [← hf] at HSQ hs32
  have HB : Hid (∀ i, padB W c x i = ((rndN f 6 (i / 4) + f (i / 4)) % 4294967296) >>> (i % 4 * 8) % 256) := fun i => by rw [hf]; rfl
  clear hf
  generalize c % 4294967296 = cl at *
  generalize c / 4294967296 = ch at *
  go_enter Tryd.func37, Tryd.ntmps37
  go_wp2_with (first
    | (go_at_call 52; refine (padded_any _ 8 cap c x _ _ hp).mono ?_; rintro e w' ⟨rfl, hw⟩; have hw := hw.symm; subst hw; rw [he])
    | (at_builtin; have _t := t1; clear t1; refine wpList_apI _ rfl _ _ rfl (.slice (some ⟨w.heap.size, 0, none⟩) 4 4) 4 _ rfl (four_own w _ _ _ _) ⟨b, off, none⟩ 8 cap (zys (lisN 8 W)) rfl (by rw [zys_length, hp.len]) (cells_rdI (hp.keep (World.grownBy_alloc _ _ _)) (by decide)) (zys_one _) (by decide) (by decide) ?_; intro g1 c1 w1 hg1 hgr1 hown1; have t2 : True := trivial)
    | (at_builtin; have _t := t2; clear t2; refine wpList_apI _ rfl _ _ rfl (.slice (some ⟨g1, 0, none⟩) 12 c1) 12 _ rfl (hown1.alloc _) ⟨w1.heap.size, 0, none⟩ 4 4 [.int .i64 (x : Nat), .int .i64 (cl : Nat), .int .i64 (ch : Nat), .int .i64 0] rfl rfl (four_cells w1 _ _ _ _ _) (by simp [Value.oneCell']) (by decide) (by decide) ?_; intro g2 c2 w2 hg2 hgr2 hown2; rw [HSQ.out] at hown2; have hq2 : RdI w2 (some ⟨g2, 0, none⟩) 16 c2 (lisN 16 f) := AnsZ.rd (lo := 0) ⟨hown2, fun _ _ => Nat.zero_le _⟩; have t3 : True := trivial)
    | (at_builtin; have _t := t3; clear t3; refine wpList_apI _ rfl _ _ rfl (.slice none 0 0) 0 [] rfl (World.ownsRow_nil _ _ _ _) ⟨g2, 0, none⟩ 16 c2 (zys (lisN 16 f)) rfl (by rw [zys_length, lisN_len]) (cells_rdI hq2 (by decide)) (zys_one _) (by decide) (by decide) ?_; intro g3 c3 w3 hg3 hgr3 hown3))
  have k1 : w.heap.size ≤ g1 := by
    rcases hg1 with h | h
    · have : w.heap.size = g1 := Option.some.inj h
      omega
    · simp at h; omega
  have G1 : w.grownBy w1 none := grown_far (World.grownBy_alloc _ _ none) hgr1 (fun g h => by have : w.heap.size = g := Option.some.inj h; omega)
  have z1 := G1.size
  have k2 : w.heap.size ≤ g2 := by
    rcases hg2 with h | h
    · have : g1 = g2 := Option.some.inj h
      omega
    · simp at h; omega
  have G2 : w.grownBy w2 none := grown_far (grown_trans G1 (World.grownBy_alloc _ _ none)) hgr2 (fun g h => by have : g1 = g := Option.some.inj h; omega)
  have z2 := G2.size
  have k3 : w2.heap.size ≤ g3 := by
    rcases hg3 with h | h
    · simp [Value.ownBlock] at h
    · exact h
  have G3 : w.grownBy w3 none := grown_trans G2 hgr3
  have Q2 : QR w2 w.heap.size g2 16 c2 f := ⟨⟨hown2, fun g h => by have : g2 = g := Option.some.inj h; omega⟩⟩
  simp only [Nat.zero_add, List.nil_append] at hown3
  have Q3 : QR w3 w.heap.size g3 16 c3 f := ⟨⟨hown3, fun g h => by have : g3 = g := Option.some.inj h; omega⟩⟩
  have l2 := Q2.lt
  have P3 := Q2.keep hgr3
  have hne : g2 ≠ g3 := by omega
  have hwg3 : w.heap.size ≤ g3 := by omega
  clear hg1 hgr1 hown1 hg2 hgr2 hown2 hg3 hgr3 hown3 hq2 Q2 G1 G2 z1 z2 k1 k3 l2 hcc hp hW HSQ m1 v2 he hbw
  go_loopw [11] (fun i wr => ∃ r : Nat, r ≤ 6 ∧ i = .int .i64 r ∧ w.grownBy wr none ∧ QR wr w.heap.size g2 16 c2 f ∧ QR wr w.heap.size g3 16 c3 (rndN f r)) (fun i _ => 6 - (intOf i).toNat)
  case atStart => exact ⟨0, by omega, rfl, G3, P3, Q3⟩
  case round =>
    obtain ⟨r, hr, rfl, hgr, hP, hQ⟩ := hrel
    by_cases hlt : r < 6
    · have hi4 : (r : Int) < 6 := by omega
      have hI := hs32.rndN r
      go_wp2
      go_loopw [12] (fun i wr => ∃ q : Nat, q ≤ 4 ∧ i = .int .i64 q ∧ w.grownBy wr none ∧ QR wr w.heap.size g2 16 c2 f ∧ QR wr w.heap.size g3 16 c3 (stiN (rndN f r) q)) (fun i _ => 4 - (intOf i).toNat)
      case atStart => exact ⟨0, by omega, rfl, hgr, hP, hQ⟩
      case round =>
        obtain ⟨q, hq, rfl, hgq, hP1, hQ1⟩ := hrel
        by_cases hlq : q < 4
        · have hi5 : (q : Int) < 4 := by omega
          have hst := rstir_any w.heap.size g3 c3 q (4 + q) (8 + q) (12 + q) _ wr hQ1 (hI.stiN q) (by omega) (by omega) (by omega) (by omega)
          have HS : Hid (stiF (stiN (rndN f r) q) q (4 + q) (8 + q) (12 + q) = stiN (rndN f r) (q + 1)) := by
            show stiF _ _ _ _ _ = stiF (stiN (rndN f r) q) (lna q) (lnb q) (lnc q) (lnd q)
            have e1 : lna q = q := Nat.mod_eq_of_lt hlq
            have e2 : lnb q = 4 + q := if_pos hlq
            have e3 : lnc q = 8 + q := if_pos hlq
            have e4 : lnd q = 12 + q := if_pos hlq
            rw [e1, e2, e3, e4]
          clear hQ1
          go_wp2_with (go_at_call 53; refine hst.mono ?_; rintro e w4 ⟨rfl, h4, g4⟩)
          rw [HS.out] at h4
          go_roundw
          case rel => exact ⟨q + 1, by omega, by go_num, grown_far hgq g4 (fun g e => by cases e; omega), hP1.kept g4 (by simpa using hne), h4⟩
          case measure => simp [intOf]; omega
        · obtain rfl : q = 4 := by omega
          go_wp2
          go_loopw [13] (fun i wr => ∃ q : Nat, q ≤ 4 ∧ i = .int .i64 q ∧ w.grownBy wr none ∧ QR wr w.heap.size g2 16 c2 f ∧ QR wr w.heap.size g3 16 c3 (stiN (rndN f r) (4 + q))) (fun i _ => 4 - (intOf i).toNat)
          case atStart => exact ⟨0, by omega, rfl, hgq, hP1, hQ1⟩
          case round =>
            obtain ⟨q, hq, rfl, hgq2, hP2, hQ2⟩ := hrel
            by_cases hlq : q < 4
            · have hi5 : (q : Int) < 4 := by omega
              have hst := rstir_any w.heap.size g3 c3 q (4 + (q + 1) % 4) (8 + (q + 2) % 4) (12 + (q + 3) % 4) _ wr hQ2 (hI.stiN (4 + q)) (by omega) (by omega) (by omega) (by omega)
              have HS : Hid (stiF (stiN (rndN f r) (4 + q)) q (4 + (q + 1) % 4) (8 + (q + 2) % 4) (12 + (q + 3) % 4) = stiN (rndN f r) (4 + (q + 1))) := by
                show stiF _ _ _ _ _ = stiF (stiN (rndN f r) (4 + q)) (lna (4 + q)) (lnb (4 + q)) (lnc (4 + q)) (lnd (4 + q))
                have e0 : ¬ 4 + q < 4 := by omega
                have e1 : lna (4 + q) = q := by unfold lna; omega
                have e2 : lnb (4 + q) = 4 + (q + 1) % 4 := by unfold lnb; rw [if_neg e0]; omega
                have e3 : lnc (4 + q) = 8 + (q + 2) % 4 := by unfold lnc; rw [if_neg e0]; omega
                have e4 : lnd (4 + q) = 12 + (q + 3) % 4 := by unfold lnd; rw [if_neg e0]; omega
                rw [e1, e2, e3, e4]
              have d1 : ((q : Int) + 1).tmod 4 = ((((q + 1) % 4 : Nat)) : Int) := by rw [Int.tmod_eq_emod_of_nonneg (by omega)]; omega
              have d2 : ((q : Int) + 2).tmod 4 = ((((q + 2) % 4 : Nat)) : Int) := by rw [Int.tmod_eq_emod_of_nonneg (by omega)]; omega
              have d3 : ((q : Int) + 3).tmod 4 = ((((q + 3) % 4 : Nat)) : Int) := by rw [Int.tmod_eq_emod_of_nonneg (by omega)]; omega
              have l1 : (q + 1) % 4 < 4 := by omega
              have l2 : (q + 2) % 4 < 4 := by omega
              have l3 : (q + 3) % 4 < 4 := by omega
              clear hQ2
              generalize (q + 1) % 4 = q1 at *
              generalize (q + 2) % 4 = q2 at *
              generalize (q + 3) % 4 = q3 at *
              go_wp2_with (go_at_call 53; refine hst.mono ?_; rintro e w4 ⟨rfl, h4, g4⟩)
              rw [HS.out] at h4
              go_roundw
              case rel => exact ⟨_, _, _, _, _, _, _, _, _, _, _, _, _, _, _, _, _, _, _, _, ⟨q + 1, by omega, by go_num, grown_far hgq2 g4 (fun g e => by cases e; omega), hP2.kept g4 (by simpa using hne), h4⟩, rfl⟩
              case measure => simp [intOf]; omega
            · obtain rfl : q = 4 := by omega
              go_wp2
              go_roundw
              case rel => exact ⟨r + 1, by omega, by go_num, hgq2, hP2, hQ2⟩
              case measure => simp [intOf]; omega
    · obtain rfl : r = 6 := by omega
      have h6 := hs32.rndN 6
      have hf32 := hs32
      clear hs32 G3 Q3 P3
      go_wp2
      go_loopw [14, 15] (fun bb i wr => ∃ (q : Nat) (ao : Option Addr) (co : Nat), q ≤ 16 ∧ i = .int .i64 q ∧ bb = .slice ao (4 * q) co ∧ w.grownBy wr none ∧ QR wr w.heap.size g2 16 c2 f ∧ QR wr w.heap.size g3 16 c3 (rndN f 6) ∧ Ans wr w.heap.size ao (4 * q) co (padT W c x (4 * q)) ∧ (Value.slice ao (4 * q) co).ownBlock ≠ some g2 ∧ (Value.slice ao (4 * q) co).ownBlock ≠ some g3) (fun _ i _ => 16 - (intOf i).toNat)
      case atStart => exact ⟨0, none, 0, by omega, rfl, rfl, hgr, hP, hQ, ans_nil _ _, by simp [Value.ownBlock], by simp [Value.ownBlock]⟩
      case round =>
        obtain ⟨q, ao, co, hq, rfl, rfl, hgq, hP1, hQ1, hA1, n2, n3⟩ := hrel
        by_cases hlq : q < 16
        · have hi5 : (q : Int) < 16 := by omega
          have c1' := hP1.cell q hlq
          have c2' := hQ1.cell q hlq
          have b1 := h6 q
          have b2 := hf32 q
          obtain ⟨s, hs⟩ : ∃ s, s = rndN f 6 q + f q := ⟨_, rfl⟩
          have eS : (rndN f 6 q : Int) + (f q : Int) = (s : Int) := by omega
          have hsl : s < 8589934592 := by omega
          obtain ⟨y0, hy0⟩ : ∃ y, y = s % 256 := ⟨_, rfl⟩
          obtain ⟨y1, hy1⟩ : ∃ y, y = s / 256 % 256 := ⟨_, rfl⟩
          obtain ⟨y2, hy2⟩ : ∃ y, y = s / 65536 % 256 := ⟨_, rfl⟩
          obtain ⟨y3, hy3⟩ : ∃ y, y = s / 16777216 % 256 := ⟨_, rfl⟩
          have E0 : (s : Int) % 256 = (y0 : Int) := by omega
          have E1 : (s : Int) / 256 % 256 = (y1 : Int) := by omega
          have E2 : (s : Int) / 65536 % 256 = (y2 : Int) := by omega
          have E3 : (s : Int) / 16777216 % 256 = (y3 : Int) := by omega
          have l0 : y0 < 256 := by omega
          have l1 : y1 < 256 := by omega
          have l2 : y2 < 256 := by omega
          have l3 : y3 < 256 := by omega
          have HY : Hid (padT W c x (4 * q) ++ [y0, y1, y2, y3] = padT W c x (4 * (q + 1))) := by
            show _ = _
            rw [hy0, hy1, hy2, hy3]; exact pad_quad HB.out hs
          have hsz := hgq.size
          clear hs hy0 hy1 hy2 hy3 HB HF
          go_wp2
          go_quiet (fail)
          have hAd := hA1.keep (grown_drewN wr nq none)
          have hgd := grown_trans hgq (grown_drewN wr nq none)
          have hPd := hP1.keep (grown_drewN wr nq none)
          have hQd := hQ1.keep (grown_drewN wr nq none)
          generalize wr.drewN nq = wd at *
          clear c1' c2' hP1 hQ1 hA1 b1 b2
          have hAl := hAd.keep (World.grownBy_alloc wd (.cells #[.int .u8 (y0 : Nat), .int .u8 (y1 : Nat), .int .u8 (y2 : Nat), .int .u8 (y3 : Nat)] 5) none)
          have hFC := four_cells wd (.int .u8 (y0 : Nat)) (.int .u8 (y1 : Nat)) (.int .u8 (y2 : Nat)) (.int .u8 (y3 : Nat)) 5
          go_wp2_with (at_builtin; refine wpList_apB _ rfl _ _ rfl (.slice ao (4 * q) co) (4 * q) _ rfl hAl.own ⟨wd.heap.size, 0, none⟩ 4 4 [.int .u8 (y0 : Nat), .int .u8 (y1 : Nat), .int .u8 (y2 : Nat), .int .u8 (y3 : Nat)] rfl rfl hFC (by simp [Value.oneCell']) (by decide) (by omega) ?_; intro gx cx w5 hgx hgr5 hown5)
          have hlo : w.heap.size ≤ wd.heap.size := hgd.size
          have l2' := hPd.lt
          have l3' := hQd.lt
          have hgx' : (Value.slice ao (4 * q) co).ownBlock = some gx ∨ wd.heap.size ≤ gx := hgx.elim .inl (fun h => .inr (by simp at h; omega))
          have hown6 : w5.ownsRow 0 5 1 (.slice (some ⟨gx, 0, none⟩) (4 * (q + 1)) cx) (4 * (q + 1)) (bys (padT W c x (4 * (q + 1)))) := by
            rw [← HY.out]
            rw [show 4 * (q + 1) = 4 * q + 4 by omega]
            have e : bys (padT W c x (4 * q) ++ [y0, y1, y2, y3]) = bys (padT W c x (4 * q)) ++ [.int .u8 (y0 : Nat), .int .u8 (y1 : Nat), .int .u8 (y2 : Nat), .int .u8 (y3 : Nat)] := by simp [bys]
            rw [e]; exact hown5
          have gA := World.grownBy_alloc wd (.cells #[.int .u8 (y0 : Nat), .int .u8 (y1 : Nat), .int .u8 (y2 : Nat), .int .u8 (y3 : Nat)] 5) none
          have hA6 : Ans w5 w.heap.size (some ⟨gx, 0, none⟩) (4 * (q + 1)) cx (padT W c x (4 * (q + 1))) := ⟨hown6, padT_byte _ _ _ _, fun g h => by
            have e : gx = g := Option.some.inj h
            subst e
            rcases hgx' with h' | h'
            · exact hAd.new _ h'
            · omega⟩
          have G6 : w.grownBy w5 none := grown_far (grown_trans hgd gA) hgr5 (fun g h => hAd.new g h)
          have P6 := (hPd.keep gA).kept hgr5 (Ne.symm n2)
          have Q6 := (hQd.keep gA).kept hgr5 (Ne.symm n3)
          have N2 : (Value.slice (some ⟨gx, 0, none⟩) (4 * (q + 1)) cx).ownBlock ≠ some g2 := fun h => by
            have e : gx = g2 := Option.some.inj h
            subst e
            rcases hgx' with h' | h'
            · exact n2 h'
            · omega
          have N3 : (Value.slice (some ⟨gx, 0, none⟩) (4 * (q + 1)) cx).ownBlock ≠ some g3 := fun h => by
            have e : gx = g3 := Option.some.inj h
            subst e
            rcases hgx' with h' | h'
            · exact n3 h'
            · omega
          go_roundw
          case rel => exact ⟨_, _, _, _, _, _, _, _, _, _, _, _, _, _, _, _, _, _, _, _, _, _, _, _, _, _, _, _, _, _, ⟨q + 1, some ⟨gx, 0, none⟩, cx, by omega, by go_num, rfl, G6, P6, Q6, hA6, N2, N3⟩, rfl⟩
          case measure => simp [intOf]; omega
        · obtain rfl : q = 16 := by omega
          go_wp2
          go_ret2
          exact ⟨ao, co, rfl, hA1, hgq⟩
theorem pad_bad (a : Option Addr) (n cap : Nat) (z x : Int) (S : List Int) (w : World) (hp : RdI w a n cap S) (he : ¬ blE n S z x = 0) :
    Calls Tryd.prog 37 #[.slice a n cap, .int .i64 z, .int .i64 x] w fun e w' => e = .returned (.tuple #[.slice none 0 0, .int .i64 (blE n S z x)]) ∧ w' = w := by
  have hw := padded_any a n cap z x S w hp
  generalize blE n S z x = v at *
  go_enter Tryd.func37, Tryd.ntmps37
  go_wp2_with (go_at_call 52; refine hw.mono ?_; rintro e w' ⟨rfl, rfl⟩)
  go_ret2
  exact ⟨rfl, rfl⟩
end Go.Proofs.YtaigcjhachkmmaaDoor
