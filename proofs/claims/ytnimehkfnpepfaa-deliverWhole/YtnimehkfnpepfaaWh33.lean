import Derived.Test.YtnimehkfnpepfaaWh30
import Derived.Test.YtnimehkfnpepfaaWh32
import Derived.Test.YtnimehkfnpepfaaWh19
namespace Go.Proofs.Ytnimehkfnpepfaa
open Go.RowKit
set_option maxRecDepth 100000
set_option linter.unusedVariables false
set_option linter.unusedSimpArgs false

section
/-- rising spans are no more than their last end -/
theorem rise_at {F : Nat → Int × Int} {n : Nat} (h : Rise F n) : ∀ k, k < n → (k : Int) < (F k).2 := by
  intro k
  induction k with
  | zero => intro hk; have := h 0 hk; omega
  | succ k ih =>
    intro hk
    have a := ih (by omega)
    obtain ⟨b1, b2, b3⟩ := h (k + 1) hk
    have b3 : (F k).2 < (F (k + 1)).1 := b3 (by omega)
    omega
theorem rise_len {F : Nat → Int × Int} {s : Nat} {n : Nat} (h : Rise F n) (hs : ∀ j, j < n → (F j).2 ≤ (s : Int)) : n ≤ s := by
  by_cases h0 : n = 0
  · omega
  · have a := rise_at h (n - 1) (by omega)
    have b := hs (n - 1) (by omega)
    omega
/-- may a taker be as it is? -/
def tmB (id : Int) (kn : Bool) (nm : ByteArray) (si : Int) (en : Bool) (la su : Int) (F : Nat → Int × Int) (m : Nat) (L : List Nat) (st ti pa tr li : Int) : Bool :=
  decide (dsE id pa li = 0) && (toB kn nm si en la su && (rsB F 65536 m && (fiB L F m && (tsB st kn (haB F si m) && (kwB ti 0 (pa - 1) && kwB tr 0 li)))))
theorem ds_pa {id pa li : Int} (h : dsE id pa li = 0) : 1 ≤ pa ∧ pa ≤ 1000 := by
  unfold dsE at h
  by_cases e : dsB id pa li = true
  · unfold dsB at e
    rw [Bool.and_eq_true, Bool.and_eq_true] at e
    exact kwB_ok e.1.2
  · rw [if_neg e] at h; exact absurd h (by decide)

set_option maxHeartbeats 32000000 in
theorem takerMay_any (id : Int) (kn : Bool) (nm : ByteArray) (si : Int) (en : Bool) (la su : Int) (q : Option Addr) (m d : Nat) (a : Option Addr) (n c : Nat) (st ti pa tr li : Int) (F : Nat → Int × Int) (L : List Nat) (w : World) (hL : Rd w a n c L) (hG : RdG w q m d F) (hm0 : m ≤ 8796093021952) (hn : n ≤ 140737488351232) :
    Calls Try.prog 77 #[.agg (tkA id kn nm si en la su (.slice q m d) (.slice a n c) st ti pa tr li)] w fun e w' => e = .returned (.bool (tmB id kn nm si en la su F m L st ti pa tr li)) ∧ w.grownBy w' none := by
  have k0 := fun wz => wrongSide_any id pa li wz
  have k1 := fun wz => toldMay_any id kn nm si en la su q m d a n c st ti pa tr li wz
  have k2 := fun wz (k : RdG wz q m d F) => spansMay_any q m d F 65536 wz k hm0
  have k3' := fun wz (k : Rd wz a n c L) (k' : RdG wz q m d F) (hR : Rise F m) (hm : m ≤ 100000) => fileMay_any id kn nm si en la su q m d a n c st ti pa tr li F L wz k k' hR hm hn
  have k4' := fun wz (k : RdG wz q m d F) (hm : m ≤ 100000) => tkStage_any id kn nm si en la su q m d a n c st ti pa tr li F wz k hm
  have k5 := fun wz => dwithin_any ti 0 (pa - 1) wz
  have k6 := fun wz => dwithin_any tr 0 li wz
  have HR : Hid (rsB F 65536 m = true → Rise F m ∧ m ≤ 100000) := by
    show _ → _
    intro h
    obtain ⟨h1, h2⟩ := rsB_rise m h
    exact ⟨h1, Nat.le_trans (rise_len (s := 65536) h1 h2) (by decide)⟩
  have hsb : IntKind.i64.wrap (pa - 1) = pa - 1 ∨ dsE id pa li ≠ 0 := by
    by_cases h : dsE id pa li = 0
    · refine .inl (wrap_i64_in _ ?_ ?_) <;> have h9 := ds_pa h <;> omega
    · exact .inr h
  have i14 := Try.info_tk
  have u14 := Try.underlying48
  have b1 := BxS.new w 48 #[.int .i64 id, .bool kn, .string nm, .int .i64 si, .bool en, .int .i64 la, .int .i64 su, .slice q m d, .slice a n c, .int .i64 st, .int .i64 ti, .int .i64 pa, .int .i64 tr, .int .i64 li]
  have y1 := World.grownBy_alloc w (.cells #[.int .i64 id, .bool kn, .string nm, .int .i64 si, .bool en, .int .i64 la, .int .i64 su, .slice q m d, .slice a n c, .int .i64 st, .int .i64 ti, .int .i64 pa, .int .i64 tr, .int .i64 li] 48) none
  unfold tkA
  generalize hw1 : w.alloc (.cells #[.int .i64 id, .bool kn, .string nm, .int .i64 si, .bool en, .int .i64 la, .int .i64 su, .slice q m d, .slice a n c, .int .i64 st, .int .i64 ti, .int .i64 pa, .int .i64 tr, .int .i64 li] 48) = w1 at b1 y1
  obtain ⟨e0, e1, e2, e3, e4, e5, e6, e7, e8, e9, e10, e11, e12, e13⟩ := (b1).cell14
  unfold tkA at k1 k3' k4'
  unfold tmB
  have G1 := y1
  generalize dsE id pa li = E at k0 hsb ⊢
  generalize toB kn nm si en la su = B1 at k1 ⊢
  generalize rsB F 65536 m = B2 at k2 HR ⊢
  generalize fiB L F m = B3 at k3' ⊢
  generalize tsB st kn (haB F si m) = B4 at k4' ⊢
  generalize kwB ti 0 (pa - 1) = B5 at k5 ⊢
  generalize kwB tr 0 li = B6 at k6 ⊢
  have s0 : True := trivial
  by_cases hE : E = 0
  · subst hE
    have hs : IntKind.i64.wrap (pa - 1) = pa - 1 := by rcases hsb with h | h; exact h; exact absurd rfl h
    clear hsb
    rw [show decide ((0 : Nat) = 0) = true from rfl, Bool.true_and]
    cases hB1 : B1
    · subst hB1
      rw [Bool.false_and]
      clear HR
      go_enter Try.func77, Try.ntmps77
      go_wp2_with (first
        | (go_at_call 58; have _t := s0; clear s0; refine Calls.mono (k0 w1) ?_; rintro e wx ⟨rfl, hwx⟩; have hwx := hwx.symm; subst hwx; have s1 : True := trivial)
        | (go_at_call 100; have _t := s1; clear s1; refine Calls.mono (k1 w1) ?_; rintro e w2 ⟨rfl, y2⟩; clear e0 e1 e2 e3 e4 e5 e6 e7 e8 e9 e10 e11 e12 e13; obtain ⟨e0, e1, e2, e3, e4, e5, e6, e7, e8, e9, e10, e11, e12, e13⟩ := ((b1.keep y2 (by simp))).cell14; have G2 := grown_trans G1 y2; have s2 : True := trivial))
      try go_ret
      exact ⟨rfl, G2⟩
    · subst hB1
      rw [Bool.true_and]
      cases hB2 : B2
      · subst hB2
        rw [Bool.false_and]
        clear HR
        go_enter Try.func77, Try.ntmps77
        go_wp2_with (first
          | (go_at_call 58; have _t := s0; clear s0; refine Calls.mono (k0 w1) ?_; rintro e wx ⟨rfl, hwx⟩; have hwx := hwx.symm; subst hwx; have s1 : True := trivial)
          | (go_at_call 100; have _t := s1; clear s1; refine Calls.mono (k1 w1) ?_; rintro e w2 ⟨rfl, y2⟩; clear e0 e1 e2 e3 e4 e5 e6 e7 e8 e9 e10 e11 e12 e13; obtain ⟨e0, e1, e2, e3, e4, e5, e6, e7, e8, e9, e10, e11, e12, e13⟩ := ((b1.keep y2 (by simp))).cell14; have G2 := grown_trans G1 y2; have s2 : True := trivial)
          | (go_at_call 101; have _t := s2; clear s2; refine Calls.mono (k2 w2 (hG.keep G2)) ?_; rintro e w3 ⟨rfl, y3⟩; clear e0 e1 e2 e3 e4 e5 e6 e7 e8 e9 e10 e11 e12 e13; obtain ⟨e0, e1, e2, e3, e4, e5, e6, e7, e8, e9, e10, e11, e12, e13⟩ := (((b1.keep y2 (by simp)).keep y3 (by simp))).cell14; have G3 := grown_trans G2 y3; have s3 : True := trivial))
        try go_ret
        exact ⟨rfl, G3⟩
      · subst hB2
        rw [Bool.true_and]
        have hR := (HR.out rfl).1
        have hm : m ≤ 100000 := (HR.out rfl).2
        have k3 := fun wz (k : Rd wz a n c L) (k' : RdG wz q m d F) => k3' wz k k' hR hm
        have k4 := fun wz (k : RdG wz q m d F) => k4' wz k hm
        clear k3' k4' hR hm
        cases hB3 : B3
        · subst hB3
          rw [Bool.false_and]
          clear HR
          go_enter Try.func77, Try.ntmps77
          go_wp2_with (first
            | (go_at_call 58; have _t := s0; clear s0; refine Calls.mono (k0 w1) ?_; rintro e wx ⟨rfl, hwx⟩; have hwx := hwx.symm; subst hwx; have s1 : True := trivial)
            | (go_at_call 100; have _t := s1; clear s1; refine Calls.mono (k1 w1) ?_; rintro e w2 ⟨rfl, y2⟩; clear e0 e1 e2 e3 e4 e5 e6 e7 e8 e9 e10 e11 e12 e13; obtain ⟨e0, e1, e2, e3, e4, e5, e6, e7, e8, e9, e10, e11, e12, e13⟩ := ((b1.keep y2 (by simp))).cell14; have G2 := grown_trans G1 y2; have s2 : True := trivial)
            | (go_at_call 101; have _t := s2; clear s2; refine Calls.mono (k2 w2 (hG.keep G2)) ?_; rintro e w3 ⟨rfl, y3⟩; clear e0 e1 e2 e3 e4 e5 e6 e7 e8 e9 e10 e11 e12 e13; obtain ⟨e0, e1, e2, e3, e4, e5, e6, e7, e8, e9, e10, e11, e12, e13⟩ := (((b1.keep y2 (by simp)).keep y3 (by simp))).cell14; have G3 := grown_trans G2 y3; have s3 : True := trivial)
            | (go_at_call 102; have _t := s3; clear s3; refine Calls.mono (k3 w3 (hL.keep G3) (hG.keep G3)) ?_; rintro e w4 ⟨rfl, y4⟩; clear e0 e1 e2 e3 e4 e5 e6 e7 e8 e9 e10 e11 e12 e13; obtain ⟨e0, e1, e2, e3, e4, e5, e6, e7, e8, e9, e10, e11, e12, e13⟩ := ((((b1.keep y2 (by simp)).keep y3 (by simp)).keep y4 (by simp))).cell14; have G4 := grown_trans G3 y4; have s4 : True := trivial))
          try go_ret
          exact ⟨rfl, G4⟩
        · subst hB3
          rw [Bool.true_and]
          cases hB4 : B4
          · subst hB4
            rw [Bool.false_and]
            clear HR
            go_enter Try.func77, Try.ntmps77
            go_wp2_with (first
              | (go_at_call 58; have _t := s0; clear s0; refine Calls.mono (k0 w1) ?_; rintro e wx ⟨rfl, hwx⟩; have hwx := hwx.symm; subst hwx; have s1 : True := trivial)
              | (go_at_call 100; have _t := s1; clear s1; refine Calls.mono (k1 w1) ?_; rintro e w2 ⟨rfl, y2⟩; clear e0 e1 e2 e3 e4 e5 e6 e7 e8 e9 e10 e11 e12 e13; obtain ⟨e0, e1, e2, e3, e4, e5, e6, e7, e8, e9, e10, e11, e12, e13⟩ := ((b1.keep y2 (by simp))).cell14; have G2 := grown_trans G1 y2; have s2 : True := trivial)
              | (go_at_call 101; have _t := s2; clear s2; refine Calls.mono (k2 w2 (hG.keep G2)) ?_; rintro e w3 ⟨rfl, y3⟩; clear e0 e1 e2 e3 e4 e5 e6 e7 e8 e9 e10 e11 e12 e13; obtain ⟨e0, e1, e2, e3, e4, e5, e6, e7, e8, e9, e10, e11, e12, e13⟩ := (((b1.keep y2 (by simp)).keep y3 (by simp))).cell14; have G3 := grown_trans G2 y3; have s3 : True := trivial)
              | (go_at_call 102; have _t := s3; clear s3; refine Calls.mono (k3 w3 (hL.keep G3) (hG.keep G3)) ?_; rintro e w4 ⟨rfl, y4⟩; clear e0 e1 e2 e3 e4 e5 e6 e7 e8 e9 e10 e11 e12 e13; obtain ⟨e0, e1, e2, e3, e4, e5, e6, e7, e8, e9, e10, e11, e12, e13⟩ := ((((b1.keep y2 (by simp)).keep y3 (by simp)).keep y4 (by simp))).cell14; have G4 := grown_trans G3 y4; have s4 : True := trivial)
              | (go_at_call 103; have _t := s4; clear s4; refine Calls.mono (k4 w4 (hG.keep G4)) ?_; rintro e w5 ⟨rfl, y5⟩; clear e0 e1 e2 e3 e4 e5 e6 e7 e8 e9 e10 e11 e12 e13; obtain ⟨e0, e1, e2, e3, e4, e5, e6, e7, e8, e9, e10, e11, e12, e13⟩ := (((((b1.keep y2 (by simp)).keep y3 (by simp)).keep y4 (by simp)).keep y5 (by simp))).cell14; have G5 := grown_trans G4 y5; have s5 : True := trivial))
            try go_ret
            exact ⟨rfl, G5⟩
          · subst hB4
            rw [Bool.true_and]
            cases B5
            · rw [Bool.false_and]
              go_enter Try.func77, Try.ntmps77
              go_wp2_with (first
                | (go_at_call 58; have _t := s0; clear s0; refine Calls.mono (k0 w1) ?_; rintro e wx ⟨rfl, hwx⟩; have hwx := hwx.symm; subst hwx; have s1 : True := trivial)
                | (go_at_call 100; have _t := s1; clear s1; refine Calls.mono (k1 w1) ?_; rintro e w2 ⟨rfl, y2⟩; clear e0 e1 e2 e3 e4 e5 e6 e7 e8 e9 e10 e11 e12 e13; obtain ⟨e0, e1, e2, e3, e4, e5, e6, e7, e8, e9, e10, e11, e12, e13⟩ := ((b1.keep y2 (by simp))).cell14; have G2 := grown_trans G1 y2; have s2 : True := trivial)
                | (go_at_call 101; have _t := s2; clear s2; refine Calls.mono (k2 w2 (hG.keep G2)) ?_; rintro e w3 ⟨rfl, y3⟩; clear e0 e1 e2 e3 e4 e5 e6 e7 e8 e9 e10 e11 e12 e13; obtain ⟨e0, e1, e2, e3, e4, e5, e6, e7, e8, e9, e10, e11, e12, e13⟩ := (((b1.keep y2 (by simp)).keep y3 (by simp))).cell14; have G3 := grown_trans G2 y3; have s3 : True := trivial)
                | (go_at_call 102; have _t := s3; clear s3; refine Calls.mono (k3 w3 (hL.keep G3) (hG.keep G3)) ?_; rintro e w4 ⟨rfl, y4⟩; clear e0 e1 e2 e3 e4 e5 e6 e7 e8 e9 e10 e11 e12 e13; obtain ⟨e0, e1, e2, e3, e4, e5, e6, e7, e8, e9, e10, e11, e12, e13⟩ := ((((b1.keep y2 (by simp)).keep y3 (by simp)).keep y4 (by simp))).cell14; have G4 := grown_trans G3 y4; have s4 : True := trivial)
                | (go_at_call 103; have _t := s4; clear s4; refine Calls.mono (k4 w4 (hG.keep G4)) ?_; rintro e w5 ⟨rfl, y5⟩; clear e0 e1 e2 e3 e4 e5 e6 e7 e8 e9 e10 e11 e12 e13; obtain ⟨e0, e1, e2, e3, e4, e5, e6, e7, e8, e9, e10, e11, e12, e13⟩ := (((((b1.keep y2 (by simp)).keep y3 (by simp)).keep y4 (by simp)).keep y5 (by simp))).cell14; have G5 := grown_trans G4 y5; have s5 : True := trivial)
                | (go_at_call 84; have _t := s5; clear s5; refine Calls.mono (k5 w5) ?_; rintro e wx ⟨rfl, hwx⟩; have hwx := hwx.symm; subst hwx; have s6 : True := trivial))
              try go_ret
              exact ⟨rfl, G5⟩
            · rw [Bool.true_and]
              go_enter Try.func77, Try.ntmps77
              go_wp2_with (first
                | (go_at_call 58; have _t := s0; clear s0; refine Calls.mono (k0 w1) ?_; rintro e wx ⟨rfl, hwx⟩; have hwx := hwx.symm; subst hwx; have s1 : True := trivial)
                | (go_at_call 100; have _t := s1; clear s1; refine Calls.mono (k1 w1) ?_; rintro e w2 ⟨rfl, y2⟩; clear e0 e1 e2 e3 e4 e5 e6 e7 e8 e9 e10 e11 e12 e13; obtain ⟨e0, e1, e2, e3, e4, e5, e6, e7, e8, e9, e10, e11, e12, e13⟩ := ((b1.keep y2 (by simp))).cell14; have G2 := grown_trans G1 y2; have s2 : True := trivial)
                | (go_at_call 101; have _t := s2; clear s2; refine Calls.mono (k2 w2 (hG.keep G2)) ?_; rintro e w3 ⟨rfl, y3⟩; clear e0 e1 e2 e3 e4 e5 e6 e7 e8 e9 e10 e11 e12 e13; obtain ⟨e0, e1, e2, e3, e4, e5, e6, e7, e8, e9, e10, e11, e12, e13⟩ := (((b1.keep y2 (by simp)).keep y3 (by simp))).cell14; have G3 := grown_trans G2 y3; have s3 : True := trivial)
                | (go_at_call 102; have _t := s3; clear s3; refine Calls.mono (k3 w3 (hL.keep G3) (hG.keep G3)) ?_; rintro e w4 ⟨rfl, y4⟩; clear e0 e1 e2 e3 e4 e5 e6 e7 e8 e9 e10 e11 e12 e13; obtain ⟨e0, e1, e2, e3, e4, e5, e6, e7, e8, e9, e10, e11, e12, e13⟩ := ((((b1.keep y2 (by simp)).keep y3 (by simp)).keep y4 (by simp))).cell14; have G4 := grown_trans G3 y4; have s4 : True := trivial)
                | (go_at_call 103; have _t := s4; clear s4; refine Calls.mono (k4 w4 (hG.keep G4)) ?_; rintro e w5 ⟨rfl, y5⟩; clear e0 e1 e2 e3 e4 e5 e6 e7 e8 e9 e10 e11 e12 e13; obtain ⟨e0, e1, e2, e3, e4, e5, e6, e7, e8, e9, e10, e11, e12, e13⟩ := (((((b1.keep y2 (by simp)).keep y3 (by simp)).keep y4 (by simp)).keep y5 (by simp))).cell14; have G5 := grown_trans G4 y5; have s5 : True := trivial)
                | (go_at_call 84; have _t := s5; clear s5; refine Calls.mono (k5 w5) ?_; rintro e wx ⟨rfl, hwx⟩; have hwx := hwx.symm; subst hwx; have s6 : True := trivial)
                | (go_at_call 84; have _t := s6; clear s6; refine Calls.mono (k6 w5) ?_; rintro e wx ⟨rfl, hwx⟩; have hwx := hwx.symm; subst hwx; have s7 : True := trivial))
              try go_ret
              exact ⟨rfl, G5⟩
  · rw [decide_eq_false hE, Bool.false_and]
    have hEi : ¬ ((E : Int) = 0) := by omega
    clear hsb HR
    go_enter Try.func77, Try.ntmps77
    go_wp2_with (first
      | (go_at_call 58; have _t := s0; clear s0; refine Calls.mono (k0 w1) ?_; rintro e wx ⟨rfl, hwx⟩; have hwx := hwx.symm; subst hwx; have s1 : True := trivial))
    try go_ret
    exact ⟨rfl, G1⟩
end
end Go.Proofs.Ytnimehkfnpepfaa
