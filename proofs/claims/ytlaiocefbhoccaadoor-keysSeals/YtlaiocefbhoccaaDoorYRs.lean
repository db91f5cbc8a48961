import Derived.Test.YtlaiocefbhoccaaDoorYRf
namespace Go.Proofs.YtlaiocefbhoccaaDoor
open Go.RowKit
set_option maxRecDepth 100000
set_option linter.unusedVariables false
set_option linter.unusedSimpArgs false
set_option maxHeartbeats 8000000 in
theorem rstir_any (lo g cap a b c d : Nat) (f0 : Nat → Nat) (w0 : World) (q0 : QR w0 lo g 16 cap f0) (m0 : Is32 f0) (ha : a < 16) (hb : b < 16) (hc : c < 16) (hd : d < 16) :
    Calls Tryd.prog 29 #[.slice (some ⟨g, 0, none⟩) 16 cap, .int .i64 a, .int .i64 b, .int .i64 c, .int .i64 d] w0 fun e w' => e = .returned (.tuple #[]) ∧ QR w' lo g 16 cap (stiF f0 a b c d) ∧ w0.grownBy w' (some g) := by
  have ia : (a : Int) < 16 := by omega
  have ib : (b : Int) < 16 := by omega
  have ic : (c : Int) < 16 := by omega
  have id' : (d : Int) < 16 := by omega
  have G0 : w0.grownBy w0 (some g) := World.grownBy.refl _ _
  go_enter Tryd.func29, Tryd.ntmps29
  have c1 := q0.cell a ha
  have c2 := q0.cell b hb
  have fr1 := q0.free a
  have b1 := m0 a
  have b2 := m0 b
  obtain ⟨v, hv⟩ : ∃ v, v = (f0 a + f0 b) % 4294967296 := ⟨_, rfl⟩
  have e1 : bits .and .i64 ((f0 a : Int) + (f0 b : Int)) 4294967295 = (v : Int) := by
    rw [hv, ← mask32 _ (by omega)]; rfl
  have HV1 : Hid (v = (f0 a + f0 b) % 4294967296) := hv
  have hv2 : v < 4294967296 := by omega
  clear hv
  go_wp2
  go_region
  have q1' : QR (w0.setCell ⟨g, a, none⟩ (.int .i64 (v : Nat))).drew lo g 16 cap (updF f0 a v) := (q0.set a v).keep (grown_drew _ _)
  have G1 : w0.grownBy (w0.setCell ⟨g, a, none⟩ (.int .i64 (v : Nat))).drew (some g) := grown_trans G0 (grown_trans (grown_set _ _ _ _) (grown_drew _ _))
  have m1' : Is32 (updF f0 a v) := m0.upd _ _ hv2
  clear c1 c2 fr1 b1 b2 e1
  obtain ⟨w1, hw1⟩ : ∃ w1, w1 = (w0.setCell ⟨g, a, none⟩ (.int .i64 (v : Nat))).drew := ⟨_, rfl⟩
  obtain ⟨f1, hf1⟩ : ∃ f1, f1 = updF f0 a v := ⟨_, rfl⟩
  have HF1 : Hid (f1 = updF f0 a v) := hf1
  rw [← hw1] at q1' G1 ⊢
  rw [← hf1] at q1' m1'
  have q1 := q1'
  have m1 := m1'
  clear q1' m1' hw1 hf1 hv2
  have c3 := q1.cell d hd
  have c4 := q1.cell a ha
  have fr3 := q1.free d
  have b3 := m1 d
  have b4 := m1 a
  have hx : f1 d ^^^ f1 a < 4294967296 := Nat.xor_lt_two_pow (n := 32) b3 b4
  have e3 : bits .xor .i64 (f1 d : Nat) (f1 a : Nat) = ((f1 d ^^^ f1 a : Nat) : Int) := i64_xor_nat _ _ (by omega) (by omega)
  go_wp2
  go_cut [] (fun wx => QR wx lo g 16 cap (updF f1 d (rotN (f1 d ^^^ f1 a) 13)) ∧ w0.grownBy wx (some g))
  case first =>
    go_region_with (go_at_call 55; refine (turned_any _ 13 hx (by decide) _).mono ?_; rintro e w' ⟨rfl, mm, rfl⟩)
    all_goals go_wp2_with fail
    all_goals go_meet
    all_goals exact ⟨(q1.keep (grown_drewN _ _ _)).set _ _, grown_trans G1 (grown_trans (grown_drewN _ _ _) (grown_set _ _ _ _))⟩
  case rest =>
    obtain ⟨q2', G2⟩ := hcut
    have m2' : Is32 (updF f1 d (rotN (f1 d ^^^ f1 a) 13)) := m1.upd _ _ (rotN_lt _ _)
    obtain ⟨f2, hf2⟩ : ∃ f2, f2 = updF f1 d (rotN (f1 d ^^^ f1 a) 13) := ⟨_, rfl⟩
    have HF2 : Hid (f2 = updF f1 d (rotN (f1 d ^^^ f1 a) 13)) := hf2
    rw [← hf2] at q2' m2'
    clear c3 c4 fr3 b3 b4 hx e3 G1 q1 m1 hf2
    have q2 := q2'
    have m2 := m2'
    clear q2' m2'
    obtain ⟨w2, hw2⟩ : ∃ w2, w2 = wc := ⟨_, rfl⟩
    rw [← hw2] at q2 G2 ⊢
    clear hw2 wc
    have c1 := q2.cell c hc
    have c2 := q2.cell d hd
    have fr1 := q2.free c
    have b1 := m2 c
    have b2 := m2 d
    obtain ⟨v, hv⟩ : ∃ v, v = (f2 c + f2 d) % 4294967296 := ⟨_, rfl⟩
    have e1 : bits .and .i64 ((f2 c : Int) + (f2 d : Int)) 4294967295 = (v : Int) := by
      rw [hv, ← mask32 _ (by omega)]; rfl
    have HV3 : Hid (v = (f2 c + f2 d) % 4294967296) := hv
    have hv2 : v < 4294967296 := by omega
    clear hv
    go_wp2
    go_region
    have q3' : QR (w2.setCell ⟨g, c, none⟩ (.int .i64 (v : Nat))).drew lo g 16 cap (updF f2 c v) := (q2.set c v).keep (grown_drew _ _)
    have G3 : w0.grownBy (w2.setCell ⟨g, c, none⟩ (.int .i64 (v : Nat))).drew (some g) := grown_trans G2 (grown_trans (grown_set _ _ _ _) (grown_drew _ _))
    have m3' : Is32 (updF f2 c v) := m2.upd _ _ hv2
    clear c1 c2 fr1 b1 b2 e1 G2 q2 m2
    obtain ⟨w3, hw3⟩ : ∃ w3, w3 = (w2.setCell ⟨g, c, none⟩ (.int .i64 (v : Nat))).drew := ⟨_, rfl⟩
    obtain ⟨f3, hf3⟩ : ∃ f3, f3 = updF f2 c v := ⟨_, rfl⟩
    have HF3 : Hid (f3 = updF f2 c v) := hf3
    rw [← hw3] at q3' G3 ⊢
    rw [← hf3] at q3' m3'
    have q3 := q3'
    have m3 := m3'
    clear q3' m3' hw3 hf3 hv2
    have c3 := q3.cell b hb
    have c4 := q3.cell c hc
    have fr3 := q3.free b
    have b3 := m3 b
    have b4 := m3 c
    have hx : f3 b ^^^ f3 c < 4294967296 := Nat.xor_lt_two_pow (n := 32) b3 b4
    have e3 : bits .xor .i64 (f3 b : Nat) (f3 c : Nat) = ((f3 b ^^^ f3 c : Nat) : Int) := i64_xor_nat _ _ (by omega) (by omega)
    go_wp2
    go_cut [] (fun wx => QR wx lo g 16 cap (updF f3 b (rotN (f3 b ^^^ f3 c) 9)) ∧ w0.grownBy wx (some g))
    case first =>
      go_region_with (go_at_call 55; refine (turned_any _ 9 hx (by decide) _).mono ?_; rintro e w' ⟨rfl, mm, rfl⟩)
      all_goals go_wp2_with fail
      all_goals go_meet
      all_goals exact ⟨(q3.keep (grown_drewN _ _ _)).set _ _, grown_trans G3 (grown_trans (grown_drewN _ _ _) (grown_set _ _ _ _))⟩
    case rest =>
      obtain ⟨q4', G4⟩ := hcut
      have m4' : Is32 (updF f3 b (rotN (f3 b ^^^ f3 c) 9)) := m3.upd _ _ (rotN_lt _ _)
      obtain ⟨f4, hf4⟩ : ∃ f4, f4 = updF f3 b (rotN (f3 b ^^^ f3 c) 9) := ⟨_, rfl⟩
      have HF4 : Hid (f4 = updF f3 b (rotN (f3 b ^^^ f3 c) 9)) := hf4
      rw [← hf4] at q4' m4'
      clear c3 c4 fr3 b3 b4 hx e3 G3 q3 m3 hf4
      have q4 := q4'
      have m4 := m4'
      clear q4' m4'
      obtain ⟨w4, hw4⟩ : ∃ w4, w4 = wc := ⟨_, rfl⟩
      rw [← hw4] at q4 G4 ⊢
      clear hw4 wc
      have c1 := q4.cell a ha
      have c2 := q4.cell b hb
      have fr1 := q4.free a
      have b1 := m4 a
      have b2 := m4 b
      obtain ⟨v, hv⟩ : ∃ v, v = (f4 a + f4 b) % 4294967296 := ⟨_, rfl⟩
      have e1 : bits .and .i64 ((f4 a : Int) + (f4 b : Int)) 4294967295 = (v : Int) := by
        rw [hv, ← mask32 _ (by omega)]; rfl
      have HV5 : Hid (v = (f4 a + f4 b) % 4294967296) := hv
      have hv2 : v < 4294967296 := by omega
      clear hv
      go_wp2
      go_region
      have q5' : QR (w4.setCell ⟨g, a, none⟩ (.int .i64 (v : Nat))).drew lo g 16 cap (updF f4 a v) := (q4.set a v).keep (grown_drew _ _)
      have G5 : w0.grownBy (w4.setCell ⟨g, a, none⟩ (.int .i64 (v : Nat))).drew (some g) := grown_trans G4 (grown_trans (grown_set _ _ _ _) (grown_drew _ _))
      have m5' : Is32 (updF f4 a v) := m4.upd _ _ hv2
      clear c1 c2 fr1 b1 b2 e1 G4 q4 m4
      obtain ⟨w5, hw5⟩ : ∃ w5, w5 = (w4.setCell ⟨g, a, none⟩ (.int .i64 (v : Nat))).drew := ⟨_, rfl⟩
      obtain ⟨f5, hf5⟩ : ∃ f5, f5 = updF f4 a v := ⟨_, rfl⟩
      have HF5 : Hid (f5 = updF f4 a v) := hf5
      rw [← hw5] at q5' G5 ⊢
      rw [← hf5] at q5' m5'
      have q5 := q5'
      have m5 := m5'
      clear q5' m5' hw5 hf5 hv2
      have c3 := q5.cell d hd
      have c4 := q5.cell a ha
      have fr3 := q5.free d
      have b3 := m5 d
      have b4 := m5 a
      have hx : f5 d ^^^ f5 a < 4294967296 := Nat.xor_lt_two_pow (n := 32) b3 b4
      have e3 : bits .xor .i64 (f5 d : Nat) (f5 a : Nat) = ((f5 d ^^^ f5 a : Nat) : Int) := i64_xor_nat _ _ (by omega) (by omega)
      go_wp2
      go_cut [] (fun wx => QR wx lo g 16 cap (updF f5 d (rotN (f5 d ^^^ f5 a) 17)) ∧ w0.grownBy wx (some g))
      case first =>
        go_region_with (go_at_call 55; refine (turned_any _ 17 hx (by decide) _).mono ?_; rintro e w' ⟨rfl, mm, rfl⟩)
        all_goals go_wp2_with fail
        all_goals go_meet
        all_goals exact ⟨(q5.keep (grown_drewN _ _ _)).set _ _, grown_trans G5 (grown_trans (grown_drewN _ _ _) (grown_set _ _ _ _))⟩
      case rest =>
        obtain ⟨q6', G6⟩ := hcut
        have m6' : Is32 (updF f5 d (rotN (f5 d ^^^ f5 a) 17)) := m5.upd _ _ (rotN_lt _ _)
        obtain ⟨f6, hf6⟩ : ∃ f6, f6 = updF f5 d (rotN (f5 d ^^^ f5 a) 17) := ⟨_, rfl⟩
        have HF6 : Hid (f6 = updF f5 d (rotN (f5 d ^^^ f5 a) 17)) := hf6
        rw [← hf6] at q6' m6'
        clear c3 c4 fr3 b3 b4 hx e3 G5 q5 m5 hf6
        have q6 := q6'
        have m6 := m6'
        clear q6' m6'
        obtain ⟨w6, hw6⟩ : ∃ w6, w6 = wc := ⟨_, rfl⟩
        rw [← hw6] at q6 G6 ⊢
        clear hw6 wc
        have c1 := q6.cell c hc
        have c2 := q6.cell d hd
        have fr1 := q6.free c
        have b1 := m6 c
        have b2 := m6 d
        obtain ⟨v, hv⟩ : ∃ v, v = (f6 c + f6 d) % 4294967296 := ⟨_, rfl⟩
        have e1 : bits .and .i64 ((f6 c : Int) + (f6 d : Int)) 4294967295 = (v : Int) := by
          rw [hv, ← mask32 _ (by omega)]; rfl
        have HV7 : Hid (v = (f6 c + f6 d) % 4294967296) := hv
        have hv2 : v < 4294967296 := by omega
        clear hv
        go_wp2
        go_region
        have q7' : QR (w6.setCell ⟨g, c, none⟩ (.int .i64 (v : Nat))).drew lo g 16 cap (updF f6 c v) := (q6.set c v).keep (grown_drew _ _)
        have G7 : w0.grownBy (w6.setCell ⟨g, c, none⟩ (.int .i64 (v : Nat))).drew (some g) := grown_trans G6 (grown_trans (grown_set _ _ _ _) (grown_drew _ _))
        have m7' : Is32 (updF f6 c v) := m6.upd _ _ hv2
        clear c1 c2 fr1 b1 b2 e1 G6 q6 m6
        obtain ⟨w7, hw7⟩ : ∃ w7, w7 = (w6.setCell ⟨g, c, none⟩ (.int .i64 (v : Nat))).drew := ⟨_, rfl⟩
        obtain ⟨f7, hf7⟩ : ∃ f7, f7 = updF f6 c v := ⟨_, rfl⟩
        have HF7 : Hid (f7 = updF f6 c v) := hf7
        rw [← hw7] at q7' G7 ⊢
        rw [← hf7] at q7' m7'
        have q7 := q7'
        have m7 := m7'
        clear q7' m7' hw7 hf7 hv2
        have c3 := q7.cell b hb
        have c4 := q7.cell c hc
        have fr3 := q7.free b
        have b3 := m7 b
        have b4 := m7 c
        have hx : f7 b ^^^ f7 c < 4294967296 := Nat.xor_lt_two_pow (n := 32) b3 b4
        have e3 : bits .xor .i64 (f7 b : Nat) (f7 c : Nat) = ((f7 b ^^^ f7 c : Nat) : Int) := i64_xor_nat _ _ (by omega) (by omega)
        go_wp2
        go_region_with (go_at_call 55; refine (turned_any _ 5 hx (by decide) _).mono ?_; rintro e w' ⟨rfl, mm, rfl⟩)
        all_goals
          go_wp2
          go_end0
          have e9 : stiF f0 a b c d = updF f7 b (rotN (f7 b ^^^ f7 c) 5) := by
            rw [HF7.out, HV7.out, HF6.out, HF5.out, HV5.out, HF4.out, HF3.out, HV3.out, HF2.out, HF1.out, HV1.out]
            rfl
          rw [e9]
          exact ⟨rfl, (q7.keep (grown_drewN _ _ _)).set _ _, grown_trans G7 (grown_trans (grown_drewN _ _ _) (grown_set _ _ _ _))⟩
end Go.Proofs.YtlaiocefbhoccaaDoor
