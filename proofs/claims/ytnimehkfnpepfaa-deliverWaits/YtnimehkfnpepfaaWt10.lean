import Derived.Test.YtnimehkfnpepfaaWt9
import Derived.Test.YtnimehkfnpepfaaWt2
import Derived.Test.YtnimehkfnpepfaaWt3
import Derived.Test.YtnimehkfnpepfaaWt4
import Derived.Test.YtnimehkfnpepfaaWt5
namespace Go.Proofs.Ytnimehkfnpepfaa
open Go.RowKit
set_option maxRecDepth 100000
set_option linter.unusedVariables false
set_option linter.unusedSimpArgs false

section
/-- rising spans are no more than their last end -/
theorem rise_at {F : Nat → Int × Int} {n : Nat} (h : Rise F n) : ∀ k, k < n → (k : Int) < (F k).2 := by
  intro k
  induction k with
  | zero => intro hk; have := h 0 hk; omega
  | succ k ih =>
    intro hk
    have a := ih (by omega)
    obtain ⟨b1, b2, b3⟩ := h (k + 1) hk
    have b3 : (F k).2 < (F (k + 1)).1 := b3 (by omega)
    omega
theorem rise_len {F : Nat → Int × Int} {s : Nat} {n : Nat} (h : Rise F n) (hs : ∀ j, j < n → (F j).2 ≤ (s : Int)) : n ≤ s := by
  by_cases h0 : n = 0
  · omega
  · have a := rise_at h (n - 1) (by omega)
    have b := hs (n - 1) (by omega)
    omega
/-- may a taker be as it is? -/
def tmB (id : Int) (kn : Bool) (nm : ByteArray) (si : Int) (en : Bool) (la su : Int) (F : Nat → Int × Int) (m : Nat) (L : List Nat) (st ti pa tr li : Int) : Bool :=
  decide (dsE id pa li = 0) && (toB kn nm si en la su && (rsB F 65536 m && (fiB L F m && (tsB st kn (haB F si m) && (kwB ti 0 (pa - 1) && kwB tr 0 li)))))
theorem ds_pa {id pa li : Int} (h : dsE id pa li = 0) : 1 ≤ pa ∧ pa ≤ 1000 := by
  unfold dsE at h
  by_cases e : dsB id pa li = true
  · unfold dsB at e
    rw [Bool.and_eq_true, Bool.and_eq_true] at e
    exact kwB_ok e.1.2
  · rw [if_neg e] at h; exact absurd h (by decide)

set_option maxHeartbeats 32000000 in
theorem takerMay_any (id : Int) (kn : Bool) (nm : ByteArray) (si : Int) (en : Bool) (la su : Int) (q : Option Addr) (m d : Nat) (a : Option Addr) (n c : Nat) (st ti pa tr li : Int) (F : Nat → Int × Int) (L : List Nat) (w : World) (hL : Rd w a n c L) (hG : RdG w q m d F) (hm0 : m ≤ 8796093021952) (hn : n ≤ 140737488351232) :
    Calls Try.prog 77 #[.agg (tkA id kn nm si en la su (.slice q m d) (.slice a n c) st ti pa tr li)] w fun e w' => e = .returned (.bool (tmB id kn nm si en la su F m L st ti pa tr li)) ∧ w.grownBy w' none := by
  have k0 := fun wz => wrongSide_any id pa li wz
  have k1 := fun wz => toldMay_any id kn nm si en la su q m d a n c st ti pa tr li wz
  have k2 := fun wz (k : RdG wz q m d F) => spansMay_any q m d F 65536 wz k hm0
  have k3' := fun wz (k : Rd wz a n c L) (k' : RdG wz q m d F) (hR : Rise F m) (hm : m ≤ 100000) => fileMay_any id kn nm si en la su q m d a n c st ti pa tr li F L wz k k' hR hm hn
  have k4' := fun wz (k : RdG wz q m d F) (hm : m ≤ 100000) => tkStage_any id kn nm si en la su q m d a n c st ti pa tr li F wz k hm
  have k5 := fun wz => dwithin_any ti 0 (pa - 1) wz
  have k6 := fun wz => dwithin_any tr 0 li wz
  have HR : Hid (rsB F 65536 m = true → Rise F m ∧ m ≤ 100000) := by
    show _ → _
    intro h
    obtain ⟨h1, h2⟩ := rsB_rise m h
    exact ⟨h1, Nat.le_trans (rise_len (s := 65536) h1 h2) (by decide)⟩
  have hsb : IntKind.i64.wrap (pa - 1) = pa - 1 ∨ dsE id pa li ≠ 0 := by
    by_cases h : dsE id pa li = 0
    · refine .inl (wrap_i64_in _ ?_ ?_) <;> have h9 := ds_pa h <;> omega
    · exact .inr h
  have i14 := Try.info_tk
  have u14 := Try.underlying48
  have b1 := BxS.new w 48 #[.int .i64 id, .bool kn, .string nm, .int .i64 si, .bool en, .int .i64 la, .int .i64 su, .slice q m d, .slice a n c, .int .i64 st, .int .i64 ti, .int .i64 pa, .int .i64 tr, .int .i64 li]
  have y1 := World.grownBy_alloc w (.cells #[.int .i64 id, .bool kn, .string nm, .int .i64 si, .bool en, .int .i64 la, .int .i64 su, .slice q m d, .slice a n c, .int .i64 st, .int .i64 ti, .int .i64 pa, .int .i64 tr, .int .i64 li] 48) none
  unfold tkA
  generalize hw1 : w.alloc (.cells #[.int .i64 id, .bool kn, .string nm, .int .i64 si, .bool en, .int .i64 la, .int .i64 su, .slice q m d, .slice a n c, .int .i64 st, .int .i64 ti, .int .i64 pa, .int .i64 tr, .int .i64 li] 48) = w1 at b1 y1
  obtain ⟨e0, e1, e2, e3, e4, e5, e6, e7, e8, e9, e10, e11, e12, e13⟩ := (b1).cell14
  unfold tkA at k1 k3' k4'
  unfold tmB
  have G1 := y1
  generalize dsE id pa li = E at k0 hsb ⊢
  generalize toB kn nm si en la su = B1 at k1 ⊢
  generalize rsB F 65536 m = B2 at k2 HR ⊢
  generalize fiB L F m = B3 at k3' ⊢
  generalize tsB st kn (haB F si m) = B4 at k4' ⊢
  generalize kwB ti 0 (pa - 1) = B5 at k5 ⊢
  generalize kwB tr 0 li = B6 at k6 ⊢
  have s0 : True := trivial
  by_cases hE : E = 0
  · subst hE
    have hs : IntKind.i64.wrap (pa - 1) = pa - 1 := by rcases hsb with h | h; exact h; exact absurd rfl h
    clear hsb
    rw [show decide ((0 : Nat) = 0) = true from rfl, Bool.true_and]
    cases hB1 : B1
    · subst hB1
      rw [Bool.false_and]
      clear HR
      go_enter Try.func77, Try.ntmps77
      go_wp2_with (first
        | (go_at_call 58; have _t := s0; clear s0; refine Calls.mono (k0 w1) ?_; rintro e wx ⟨rfl, hwx⟩; have hwx := hwx.symm; subst hwx; have s1 : True := trivial)
        | (go_at_call 100; have _t := s1; clear s1; refine Calls.mono (k1 w1) ?_; rintro e w2 ⟨rfl, y2⟩; clear e0 e1 e2 e3 e4 e5 e6 e7 e8 e9 e10 e11 e12 e13; obtain ⟨e0, e1, e2, e3, e4, e5, e6, e7, e8, e9, e10, e11, e12, e13⟩ := ((b1.keep y2 (by simp))).cell14; have G2 := grown_trans G1 y2; have s2 : True := trivial))
      try go_ret
      exact ⟨rfl, G2⟩
    · subst hB1
      rw [Bool.true_and]
      cases hB2 : B2
      · subst hB2
        rw [Bool.false_and]
        clear HR
        go_enter Try.func77, Try.ntmps77
        go_wp2_with (first
          | (go_at_call 58; have _t := s0; clear s0; refine Calls.mono (k0 w1) ?_; rintro e wx ⟨rfl, hwx⟩; have hwx := hwx.symm; subst hwx; have s1 : True := trivial)
          | (go_at_call 100; have _t := s1; clear s1; refine Calls.mono (k1 w1) ?_; rintro e w2 ⟨rfl, y2⟩; clear e0 e1 e2 e3 e4 e5 e6 e7 e8 e9 e10 e11 e12 e13; obtain ⟨e0, e1, e2, e3, e4, e5, e6, e7, e8, e9, e10, e11, e12, e13⟩ := ((b1.keep y2 (by simp))).cell14; have G2 := grown_trans G1 y2; have s2 : True := trivial)
          | (go_at_call 101; have _t := s2; clear s2; refine Calls.mono (k2 w2 (hG.keep G2)) ?_; rintro e w3 ⟨rfl, y3⟩; clear e0 e1 e2 e3 e4 e5 e6 e7 e8 e9 e10 e11 e12 e13; obtain ⟨e0, e1, e2, e3, e4, e5, e6, e7, e8, e9, e10, e11, e12, e13⟩ := (((b1.keep y2 (by simp)).keep y3 (by simp))).cell14; have G3 := grown_trans G2 y3; have s3 : True := trivial))
        try go_ret
        exact ⟨rfl, G3⟩
      · subst hB2
        rw [Bool.true_and]
        have hR := (HR.out rfl).1
        have hm : m ≤ 100000 := (HR.out rfl).2
        have k3 := fun wz (k : Rd wz a n c L) (k' : RdG wz q m d F) => k3' wz k k' hR hm
        have k4 := fun wz (k : RdG wz q m d F) => k4' wz k hm
        clear k3' k4' hR hm
        cases hB3 : B3
        · subst hB3
          rw [Bool.false_and]
          clear HR
          go_enter Try.func77, Try.ntmps77
          go_wp2_with (first
            | (go_at_call 58; have _t := s0; clear s0; refine Calls.mono (k0 w1) ?_; rintro e wx ⟨rfl, hwx⟩; have hwx := hwx.symm; subst hwx; have s1 : True := trivial)
            | (go_at_call 100; have _t := s1; clear s1; refine Calls.mono (k1 w1) ?_; rintro e w2 ⟨rfl, y2⟩; clear e0 e1 e2 e3 e4 e5 e6 e7 e8 e9 e10 e11 e12 e13; obtain ⟨e0, e1, e2, e3, e4, e5, e6, e7, e8, e9, e10, e11, e12, e13⟩ := ((b1.keep y2 (by simp))).cell14; have G2 := grown_trans G1 y2; have s2 : True := trivial)
            | (go_at_call 101; have _t := s2; clear s2; refine Calls.mono (k2 w2 (hG.keep G2)) ?_; rintro e w3 ⟨rfl, y3⟩; clear e0 e1 e2 e3 e4 e5 e6 e7 e8 e9 e10 e11 e12 e13; obtain ⟨e0, e1, e2, e3, e4, e5, e6, e7, e8, e9, e10, e11, e12, e13⟩ := (((b1.keep y2 (by simp)).keep y3 (by simp))).cell14; have G3 := grown_trans G2 y3; have s3 : True := trivial)
            | (go_at_call 102; have _t := s3; clear s3; refine Calls.mono (k3 w3 (hL.keep G3) (hG.keep G3)) ?_; rintro e w4 ⟨rfl, y4⟩; clear e0 e1 e2 e3 e4 e5 e6 e7 e8 e9 e10 e11 e12 e13; obtain ⟨e0, e1, e2, e3, e4, e5, e6, e7, e8, e9, e10, e11, e12, e13⟩ := ((((b1.keep y2 (by simp)).keep y3 (by simp)).keep y4 (by simp))).cell14; have G4 := grown_trans G3 y4; have s4 : True := trivial))
          try go_ret
          exact ⟨rfl, G4⟩
        · subst hB3
          rw [Bool.true_and]
          cases hB4 : B4
          · subst hB4
            rw [Bool.false_and]
            clear HR
            go_enter Try.func77, Try.ntmps77
            go_wp2_with (first
              | (go_at_call 58; have _t := s0; clear s0; refine Calls.mono (k0 w1) ?_; rintro e wx ⟨rfl, hwx⟩; have hwx := hwx.symm; subst hwx; have s1 : True := trivial)
              | (go_at_call 100; have _t := s1; clear s1; refine Calls.mono (k1 w1) ?_; rintro e w2 ⟨rfl, y2⟩; clear e0 e1 e2 e3 e4 e5 e6 e7 e8 e9 e10 e11 e12 e13; obtain ⟨e0, e1, e2, e3, e4, e5, e6, e7, e8, e9, e10, e11, e12, e13⟩ := ((b1.keep y2 (by simp))).cell14; have G2 := grown_trans G1 y2; have s2 : True := trivial)
              | (go_at_call 101; have _t := s2; clear s2; refine Calls.mono (k2 w2 (hG.keep G2)) ?_; rintro e w3 ⟨rfl, y3⟩; clear e0 e1 e2 e3 e4 e5 e6 e7 e8 e9 e10 e11 e12 e13; obtain ⟨e0, e1, e2, e3, e4, e5, e6, e7, e8, e9, e10, e11, e12, e13⟩ := (((b1.keep y2 (by simp)).keep y3 (by simp))).cell14; have G3 := grown_trans G2 y3; have s3 : True := trivial)
              | (go_at_call 102; have _t := s3; clear s3; refine Calls.mono (k3 w3 (hL.keep G3) (hG.keep G3)) ?_; rintro e w4 ⟨rfl, y4⟩; clear e0 e1 e2 e3 e4 e5 e6 e7 e8 e9 e10 e11 e12 e13; obtain ⟨e0, e1, e2, e3, e4, e5, e6, e7, e8, e9, e10, e11, e12, e13⟩ := ((((b1.keep y2 (by simp)).keep y3 (by simp)).keep y4 (by simp))).cell14; have G4 := grown_trans G3 y4; have s4 : True := trivial)
              | (go_at_call 103; have _t := s4; clear s4; refine Calls.mono (k4 w4 (hG.keep G4)) ?_; rintro e w5 ⟨rfl, y5⟩; clear e0 e1 e2 e3 e4 e5 e6 e7 e8 e9 e10 e11 e12 e13; obtain ⟨e0, e1, e2, e3, e4, e5, e6, e7, e8, e9, e10, e11, e12, e13⟩ := (((((b1.keep y2 (by simp)).keep y3 (by simp)).keep y4 (by simp)).keep y5 (by simp))).cell14; have G5 := grown_trans G4 y5; have s5 : True := trivial))
            try go_ret
            exact ⟨rfl, G5⟩
          · subst hB4
            rw [Bool.true_and]
            cases B5
            · rw [Bool.false_and]
              go_enter Try.func77, Try.ntmps77
              go_wp2_with (first
                | (go_at_call 58; have _t := s0; clear s0; refine Calls.mono (k0 w1) ?_; rintro e wx ⟨rfl, hwx⟩; have hwx := hwx.symm; subst hwx; have s1 : True := trivial)
                | (go_at_call 100; have _t := s1; clear s1; refine Calls.mono (k1 w1) ?_; rintro e w2 ⟨rfl, y2⟩; clear e0 e1 e2 e3 e4 e5 e6 e7 e8 e9 e10 e11 e12 e13; obtain ⟨e0, e1, e2, e3, e4, e5, e6, e7, e8, e9, e10, e11, e12, e13⟩ := ((b1.keep y2 (by simp))).cell14; have G2 := grown_trans G1 y2; have s2 : True := trivial)
                | (go_at_call 101; have _t := s2; clear s2; refine Calls.mono (k2 w2 (hG.keep G2)) ?_; rintro e w3 ⟨rfl, y3⟩; clear e0 e1 e2 e3 e4 e5 e6 e7 e8 e9 e10 e11 e12 e13; obtain ⟨e0, e1, e2, e3, e4, e5, e6, e7, e8, e9, e10, e11, e12, e13⟩ := (((b1.keep y2 (by simp)).keep y3 (by simp))).cell14; have G3 := grown_trans G2 y3; have s3 : True := trivial)
                | (go_at_call 102; have _t := s3; clear s3; refine Calls.mono (k3 w3 (hL.keep G3) (hG.keep G3)) ?_; rintro e w4 ⟨rfl, y4⟩; clear e0 e1 e2 e3 e4 e5 e6 e7 e8 e9 e10 e11 e12 e13; obtain ⟨e0, e1, e2, e3, e4, e5, e6, e7, e8, e9, e10, e11, e12, e13⟩ := ((((b1.keep y2 (by simp)).keep y3 (by simp)).keep y4 (by simp))).cell14; have G4 := grown_trans G3 y4; have s4 : True := trivial)
                | (go_at_call 103; have _t := s4; clear s4; refine Calls.mono (k4 w4 (hG.keep G4)) ?_; rintro e w5 ⟨rfl, y5⟩; clear e0 e1 e2 e3 e4 e5 e6 e7 e8 e9 e10 e11 e12 e13; obtain ⟨e0, e1, e2, e3, e4, e5, e6, e7, e8, e9, e10, e11, e12, e13⟩ := (((((b1.keep y2 (by simp)).keep y3 (by simp)).keep y4 (by simp)).keep y5 (by simp))).cell14; have G5 := grown_trans G4 y5; have s5 : True := trivial)
                | (go_at_call 84; have _t := s5; clear s5; refine Calls.mono (k5 w5) ?_; rintro e wx ⟨rfl, hwx⟩; have hwx := hwx.symm; subst hwx; have s6 : True := trivial))
              try go_ret
              exact ⟨rfl, G5⟩
            · rw [Bool.true_and]
              go_enter Try.func77, Try.ntmps77
              go_wp2_with (first
                | (go_at_call 58; have _t := s0; clear s0; refine Calls.mono (k0 w1) ?_; rintro e wx ⟨rfl, hwx⟩; have hwx := hwx.symm; subst hwx; have s1 : True := trivial)
                | (go_at_call 100; have _t := s1; clear s1; refine Calls.mono (k1 w1) ?_; rintro e w2 ⟨rfl, y2⟩; clear e0 e1 e2 e3 e4 e5 e6 e7 e8 e9 e10 e11 e12 e13; obtain ⟨e0, e1, e2, e3, e4, e5, e6, e7, e8, e9, e10, e11, e12, e13⟩ := ((b1.keep y2 (by simp))).cell14; have G2 := grown_trans G1 y2; have s2 : True := trivial)
                | (go_at_call 101; have _t := s2; clear s2; refine Calls.mono (k2 w2 (hG.keep G2)) ?_; rintro e w3 ⟨rfl, y3⟩; clear e0 e1 e2 e3 e4 e5 e6 e7 e8 e9 e10 e11 e12 e13; obtain ⟨e0, e1, e2, e3, e4, e5, e6, e7, e8, e9, e10, e11, e12, e13⟩ := (((b1.keep y2 (by simp)).keep y3 (by simp))).cell14; have G3 := grown_trans G2 y3; have s3 : True := trivial)
                | (go_at_call 102; have _t := s3; clear s3; refine Calls.mono (k3 w3 (hL.keep G3) (hG.keep G3)) ?_; rintro e w4 ⟨rfl, y4⟩; clear e0 e1 e2 e3 e4 e5 e6 e7 e8 e9 e10 e11 e12 e13; obtain ⟨e0, e1, e2, e3, e4, e5, e6, e7, e8, e9, e10, e11, e12, e13⟩ := ((((b1.keep y2 (by simp)).keep y3 (by simp)).keep y4 (by simp))).cell14; have G4 := grown_trans G3 y4; have s4 : True := trivial)
                | (go_at_call 103; have _t := s4; clear s4; refine Calls.mono (k4 w4 (hG.keep G4)) ?_; rintro e w5 ⟨rfl, y5⟩; clear e0 e1 e2 e3 e4 e5 e6 e7 e8 e9 e10 e11 e12 e13; obtain ⟨e0, e1, e2, e3, e4, e5, e6, e7, e8, e9, e10, e11, e12, e13⟩ := (((((b1.keep y2 (by simp)).keep y3 (by simp)).keep y4 (by simp)).keep y5 (by simp))).cell14; have G5 := grown_trans G4 y5; have s5 : True := trivial)
                | (go_at_call 84; have _t := s5; clear s5; refine Calls.mono (k5 w5) ?_; rintro e wx ⟨rfl, hwx⟩; have hwx := hwx.symm; subst hwx; have s6 : True := trivial)
                | (go_at_call 84; have _t := s6; clear s6; refine Calls.mono (k6 w5) ?_; rintro e wx ⟨rfl, hwx⟩; have hwx := hwx.symm; subst hwx; have s7 : True := trivial))
              try go_ret
              exact ⟨rfl, G5⟩
  · rw [decide_eq_false hE, Bool.false_and]
    have hEi : ¬ ((E : Int) = 0) := by omega
    clear hsb HR
    go_enter Try.func77, Try.ntmps77
    go_wp2_with (first
      | (go_at_call 58; have _t := s0; clear s0; refine Calls.mono (k0 w1) ?_; rintro e wx ⟨rfl, hwx⟩; have hwx := hwx.symm; subst hwx; have s1 : True := trivial))
    try go_ret
    exact ⟨rfl, G1⟩
end

section
/-- a taker at work; wB: the world when the call began -/
structure TKW (wB w : World) (gw : Nat) (id : Int) (kn : Bool) (nm : ByteArray) (si : Int) (en : Bool) (la su : Int) (st ti pa tr li : Int) (a : Option Addr) (n c : Nat) (L : List Nat) (q : Option Addr) (m d : Nat) (G : List (Int × Int)) (na : Option Addr) (nn nc : Nat) (xs : List Nx) : Prop where
  bx : BxS w gw 112 #[.int .i64 id, .bool kn, .string nm, .int .i64 si, .bool en, .int .i64 la, .int .i64 su, .slice q m d, .slice a n c, .int .i64 st, .int .i64 ti, .int .i64 pa, .int .i64 tr, .int .i64 li, .slice na nn nc]
  A : Ans w wB.heap.size a n c L
  O : OwGi w wB.heap.size q m d G
  N : OwN w wB.heap.size na nn nc xs
  gl : wB.heap.size ≤ gw
  sA : ∀ z, (Value.slice a n c).ownBlock = some z → ¬ Nbl na nn nc xs z
  sO : ∀ z, (Value.slice q m d).ownBlock = some z → ¬ Nbl na nn nc xs z
  g : wB.grownBy w none

set_option maxHeartbeats 16000000 in
/-- a note goes -/
theorem tsend_any (wB w : World) (gw : Nat) (id : Int) (kn : Bool) (nm : ByteArray) (si : Int) (en : Bool) (la su : Int) (st ti pa tr li : Int) (a : Option Addr) (n c : Nat) (L : List Nat) (q : Option Addr) (m d : Nat) (G : List (Int × Int)) (na : Option Addr) (nn nc : Nat) (xs : List Nx) (h : TKW wB w gw id kn nm si en la su st ti pa tr li a n c L q m d G na nn nc xs) (x : Nx) (hxA : Ans w wB.heap.size x.a x.da.length x.c x.da) (hxO : OwGi w wB.heap.size x.q x.ga.length x.d x.ga) (hn : nn ≤ 100000)
    (h1 : ∀ z, ((Value.slice x.a x.da.length x.c).ownBlock = some z ∨ (Value.slice x.q x.ga.length x.d).ownBlock = some z) → ¬ Nbl na nn nc xs z ∧ (Value.slice a n c).ownBlock ≠ some z ∧ (Value.slice q m d).ownBlock ≠ some z) :
    Calls Try.prog 121 #[.pointer (some ⟨gw, 0, none⟩), .agg x.arr] w fun e w' => e = .returned (.tuple #[]) ∧ (∃ na' nc', TKW wB w' gw id kn nm si en la su st ti pa tr li a n c L q m d G na' (nn + 1) nc' (xs ++ [{ x with id := id }])) ∧ ∀ g9 t9 cs9, BxS w g9 t9 cs9 → g9 ≠ gw → (Value.slice na nn nc).ownBlock ≠ some g9 → BxS w' g9 t9 cs9 := by
  have b0 := BxS.new w 27 x.arr
  have g0 := World.grownBy_alloc w (.cells x.arr 27) none
  have i10 := Try.info_nt
  obtain ⟨i0, hi, hz0, hz1, hz2⟩ := info_parts Try.info_nt3
  generalize hw0 : w.alloc (.cells x.arr 27) = w0 at b0 g0
  have bw := h.bx.keep g0 (by simp)
  have lw := h.bx.lt
  have x0 : w0.cell? ⟨gw, 0, none⟩ = some (.int .i64 id) := bw.cell 0 (by show 0 < 15; decide)
  have x1 : w0.cell? ⟨w.heap.size, 1, none⟩ = some (.int .i64 x.id) := b0.cell 1 (by show 1 < 10; decide)
  have f1 := b0.free 1
  have b1 := b0.set 1 (.int .i64 id)
  have u1 := grown_set w0 w.heap.size 1 (.int .i64 id)
  rw [two_nx] at b1
  generalize hw1 : w0.setCell ⟨w.heap.size, 1, none⟩ (.int .i64 id) = w1 at b1 u1
  have bw1 := bw.keep u1 (fun e => by have e := Option.some.inj e; omega)
  have hg1 : w.grownBy w1 none := grown_far g0 u1 (fun q e => by have e := Option.some.inj e; omega)
  go_enter Try.func121, Try.ntmps121
  refine wp_seq_k fun K1 hK1 => ?_
  have HK1 : Hid _ := hK1
  clear hK1
  go_wp2
  refine HK1.out _ _ ?_
  clear HK1
  refine wp_seq_k fun K2 hK2 => ?_
  have HK2 : Hid _ := hK2
  clear hK2
  go_wp2
  clear x0 x1 f1
  refine HK2.out _ _ ?_
  clear HK2
  obtain ⟨xx, hxx⟩ : ∃ xx : Nx, xx = { x with id := id } := ⟨_, rfl⟩
  rw [← hxx] at b1 ⊢
  have HXX : Hid _ := hxx
  clear hxx
  have Gd := grown_drew w1 none
  have SS : BxS w1.drew gw 112 #[.int .i64 id, .bool kn, .string nm, .int .i64 si, .bool en, .int .i64 la, .int .i64 su, .slice q m d, .slice a n c, .int .i64 st, .int .i64 ti, .int .i64 pa, .int .i64 tr, .int .i64 li, .slice na nn nc] ∧ BxS w1.drew w.heap.size 27 xx.arr := ⟨bw1.keep Gd (by simp), b1.keep Gd (by simp)⟩
  have G2 := grown_trans hg1 Gd
  refine wp_regionL (fun wz => BxS wz gw 112 #[.int .i64 id, .bool kn, .string nm, .int .i64 si, .bool en, .int .i64 la, .int .i64 su, .slice q m d, .slice a n c, .int .i64 st, .int .i64 ti, .int .i64 pa, .int .i64 tr, .int .i64 li, .slice na nn nc] ∧ BxS wz w.heap.size 27 xx.arr) [10] #[false, false, false, false, false, false, false, false, false, false, false] rfl (by kernel_rfl) ?_
  refine wpAnyZ_take [10] 0 (.pointer (some ⟨gw, 0, none⟩)) rfl (by kernel_rfl) (fun _ _ _ h => h) SS rfl (by intro wz hz; go_simp) ?_
  try simp only [List.getElem_toArray, List.getElem_cons_succ, List.getElem_cons_zero, Act.put, List.setIfInBounds_toArray, List.set_cons_zero, List.set_cons_succ]
  refine wpAnyZ_take [10] 1 (.pointer (some ⟨gw, 0, none⟩)) rfl (by kernel_rfl) (fun _ _ _ h => h) SS rfl (by intro wz hz; go_simp) ?_
  try simp only [List.getElem_toArray, List.getElem_cons_succ, List.getElem_cons_zero, Act.put, List.setIfInBounds_toArray, List.set_cons_zero, List.set_cons_succ]
  refine wpAnyZ_take [10] 2 (.pointer (some ⟨gw, 0, none⟩)) rfl (by kernel_rfl) (fun _ _ _ h => h) SS rfl (by intro wz hz; go_simp) ?_
  try simp only [List.getElem_toArray, List.getElem_cons_succ, List.getElem_cons_zero, Act.put, List.setIfInBounds_toArray, List.set_cons_zero, List.set_cons_succ]
  refine wpAnyZ_take [10] 3 (.pointer (some ⟨gw, 14, none⟩)) rfl (by kernel_rfl) (fun _ _ _ h => h) SS rfl (by intro wz hz; go_simp) ?_
  try simp only [List.getElem_toArray, List.getElem_cons_succ, List.getElem_cons_zero, Act.put, List.setIfInBounds_toArray, List.set_cons_zero, List.set_cons_succ]
  refine wpAnyZ_take [10] 4 (.slice na nn nc) rfl (by kernel_rfl) (fun _ _ _ h => h) SS rfl (by rintro wz ⟨hz, hz2⟩; have z : wz.cell? ⟨gw, 14, none⟩ = some (.slice na nn nc) := hz.cell 14 (by show 14 < 15; decide); go_simp) ?_
  try simp only [List.getElem_toArray, List.getElem_cons_succ, List.getElem_cons_zero, Act.put, List.setIfInBounds_toArray, List.set_cons_zero, List.set_cons_succ]
  refine wpAnyZ_take [10] 5 (.agg xx.arr) rfl (by kernel_rfl) (fun _ _ _ h => h) SS rfl (by rintro wz ⟨hz, hz2⟩; exact ld_execD rfl rfl hz2 Try.underlying27 i10) ?_
  try simp only [List.getElem_toArray, List.getElem_cons_succ, List.getElem_cons_zero, Act.put, List.setIfInBounds_toArray, List.set_cons_zero, List.set_cons_succ]
  generalize w1.drew = w2 at *
  have bA := BxS.new w2 27 xx.arr
  have yA := World.grownBy_alloc w2 (.cells xx.arr 27) none
  refine wpAnyZ_oneB 6 rfl (by kernel_rfl) (fun KK hKK => ?_)
  have harr : xx.arr = #[.int .i64 xx.kd, .int .i64 xx.id, .string xx.nm, .int .i64 xx.si, .int .i64 xx.su, .int .i64 xx.at', .slice xx.a xx.da.length xx.c, .slice xx.q xx.ga.length xx.d, .int .i64 xx.o, .int .i64 xx.co] := rfl
  rw [harr]
  go_simp
  rw [← harr]
  have S3 : BxS (w2.alloc (.cells xx.arr 27)) gw 112 #[.int .i64 id, .bool kn, .string nm, .int .i64 si, .bool en, .int .i64 la, .int .i64 su, .slice q m d, .slice a n c, .int .i64 st, .int .i64 ti, .int .i64 pa, .int .i64 tr, .int .i64 li, .slice na nn nc] ∧ BxS (w2.alloc (.cells xx.arr 27)) w.heap.size 27 xx.arr := ⟨SS.1.keep yA (by simp), SS.2.keep yA (by simp)⟩
  refine hKK _ _ (fun _ => S3) ?_
  try simp only [List.getElem_toArray, List.getElem_cons_succ, List.getElem_cons_zero, Act.put, List.setIfInBounds_toArray, List.set_cons_zero, List.set_cons_succ]
  have G3 := grown_trans G2 yA
  have z2 := G2.size
  have l2 := SS.2.lt
  generalize w2.alloc (.cells xx.arr 27) = w3 at *
  have hN3 := h.N.keep G3
  refine wpAnyZ_oneB 7 rfl (by kernel_rfl) (fun KK hKK => ?_)
  refine step_apS w3 rfl _ _ 54 27 i0 _ 10 120 Try.underlying54 hi hz0 hz1 hz2 rfl (by decide) rfl (.slice na nn nc) nn (flN xs) rfl hN3.own ⟨w2.heap.size, 0, none⟩ 1 1 xx.cells rfl rfl bA.newsA (by intro u hu; simp only [Nx.cells, Nx.arr, List.mem_cons, List.not_mem_nil, or_false] at hu; rcases hu with rfl | rfl | rfl | rfl | rfl | rfl | rfl | rfl | rfl | rfl <;> rfl) (by decide) (by unfold maxLen; omega) (by omega) ?_
  intro gx cx w4 hor u4 hO4
  have hr4 : ∀ z, (Value.slice na nn nc).ownBlock = some z → wB.heap.size ≤ z ∧ z < w.heap.size := fun z e => ⟨h.N.new z e, h.N.lt (.inl e)⟩
  have S4 : BxS w4 gw 112 #[.int .i64 id, .bool kn, .string nm, .int .i64 si, .bool en, .int .i64 la, .int .i64 su, .slice q m d, .slice a n c, .int .i64 st, .int .i64 ti, .int .i64 pa, .int .i64 tr, .int .i64 li, .slice na nn nc] ∧ BxS w4 w.heap.size 27 xx.arr := ⟨S3.1.keep u4 (fun e => own_ty hN3.own S3.1 (by decide) e.symm), S3.2.keep u4 (fun e => by have := hr4 _ e.symm; omega)⟩
  refine hKK _ _ (fun _ => S4) ?_
  try simp only [List.getElem_toArray, List.getElem_cons_succ, List.getElem_cons_zero, Act.put, List.setIfInBounds_toArray, List.set_cons_zero, List.set_cons_succ]
  refine wpAnyZ_take [9, 10] 8 (.pointer (some ⟨gw, 0, none⟩)) rfl (by kernel_rfl) (fun _ _ _ h => h) S4 rfl (by intro wz hz; go_simp) ?_
  try simp only [List.getElem_toArray, List.getElem_cons_succ, List.getElem_cons_zero, Act.put, List.setIfInBounds_toArray, List.set_cons_zero, List.set_cons_succ]
  refine wpAnyZ_take [10] 9 (.pointer (some ⟨gw, 14, none⟩)) rfl (by kernel_rfl) (fun _ _ _ h => h) S4 rfl (by intro wz hz; go_simp) ?_
  try simp only [List.getElem_toArray, List.getElem_cons_succ, List.getElem_cons_zero, Act.put, List.setIfInBounds_toArray, List.set_cons_zero, List.set_cons_succ]
  refine wpAnyZ_oneB 10 rfl (by kernel_rfl) (fun KK hKK => ?_)
  refine step_stCd _ rfl _ _ _ rfl gw 14 112 _ #[.int .i64 id, .bool kn, .string nm, .int .i64 si, .bool en, .int .i64 la, .int .i64 su, .slice q m d, .slice a n c, .int .i64 st, .int .i64 ti, .int .i64 pa, .int .i64 tr, .int .i64 li, .slice (some ⟨gx, 0, none⟩) (nn + 1) cx] (.slice (some ⟨gx, 0, none⟩) (nn + 1) cx) rfl rfl S4.1 (fun w' h1 h2 => stc_slN _ _ _ _ _ _ h1 h2) (by show 14 < 15; decide) rfl ?_
  intro w5 b5 u5
  refine hKK _ _ (fun h => absurd (by decide) h) ?_
  try simp only [List.getElem_toArray, List.getElem_cons_succ, List.getElem_cons_zero, Act.put, List.setIfInBounds_toArray, List.set_cons_zero, List.set_cons_succ]
  refine wpAnyZ_doneB (by kernel_rfl) ?_ _
  have zB := h.g.size
  have hgx : (Value.slice na nn nc).ownBlock = some gx ∨ w.heap.size ≤ gx := by
    rcases hor with e | e
    · exact .inl e
    · exact .inr (by have := G3.size; omega)
  have hbl : ∀ z, Nbl (some ⟨gx, 0, none⟩) (nn + 1) cx (xs ++ [xx]) z → (gx = z) ∨ Nbl na nn nc xs z ∨ ((Value.slice xx.a xx.da.length xx.c).ownBlock = some z ∨ (Value.slice xx.q xx.ga.length xx.d).ownBlock = some z) := by
    intro z hz
    rcases hz with e | ⟨y, hy, e⟩
    · exact .inl (Option.some.inj e)
    · rcases List.mem_append.1 hy with hy | hy
      · exact .inr (.inl (.inr ⟨y, hy, e⟩))
      · rw [List.mem_singleton.1 hy] at e; exact .inr (.inr e)
  have hxA' : Ans w wB.heap.size xx.a xx.da.length xx.c xx.da := by rw [HXX.out]; exact hxA
  have hxO' : OwGi w wB.heap.size xx.q xx.ga.length xx.d xx.ga := by rw [HXX.out]; exact hxO
  have h1' : ∀ z, ((Value.slice xx.a xx.da.length xx.c).ownBlock = some z ∨ (Value.slice xx.q xx.ga.length xx.d).ownBlock = some z) → ¬ Nbl na nn nc xs z ∧ (Value.slice a n c).ownBlock ≠ some z ∧ (Value.slice q m d).ownBlock ≠ some z := by rw [HXX.out]; exact h1
  have hrow : ∀ z, (Value.slice na nn nc).ownBlock = some z → ∃ cs, BxS w3 z 27 cs := fun z e => own_bxS hN3.own e
  have hO4' := hO4
  rw [← flN_add] at hO4'
  have kA : ∀ (a9 : Option Addr) (n9 c9 : Nat) (L9 : List Nat), Ans w wB.heap.size a9 n9 c9 L9 → Ans w5 wB.heap.size a9 n9 c9 L9 := by
    intro a9 n9 c9 L9 h9
    have h3 := h9.keep G3
    refine (h3.kRR u4 (fun z e e2 => ?_)).kRR u5 (fun z e e2 => ?_)
    · obtain ⟨cs, hb⟩ := hrow z e
      exact own_ty h3.own hb (by decide) e2
    · have e := Option.some.inj e
      subst e
      exact own_ty h3.own S3.1 (by decide) e2
  have kO : ∀ (a9 : Option Addr) (n9 c9 : Nat) (L9 : List (Int × Int)), OwGi w wB.heap.size a9 n9 c9 L9 → OwGi w5 wB.heap.size a9 n9 c9 L9 := by
    intro a9 n9 c9 L9 h9
    have h3 := h9.keep G3
    refine (h3.kR u4 (fun z e e2 => ?_)).kR u5 (fun z e e2 => ?_)
    · obtain ⟨cs, hb⟩ := hrow z e
      exact own_ty h3.own hb (by decide) e2
    · have e := Option.some.inj e
      subst e
      exact own_ty h3.own S3.1 (by decide) e2
  have hN5 : OwN w5 wB.heap.size (some ⟨gx, 0, none⟩) (nn + 1) cx (xs ++ [xx]) := by
    refine ⟨hO4'.kept u5 (.inr (fun e => own_ty hO4' S4.1 (by decide) e)), by rw [List.length_append, h.N.len]; rfl, fun g e => ?_, fun y hy => ?_, fun y hy => ?_, ?_, ?_⟩
    · have e : gx = g := Option.some.inj e
      subst e
      rcases hgx with e | e
      · exact h.N.new _ e
      · omega
    · rcases List.mem_append.1 hy with hy | hy
      · exact kA _ _ _ _ (h.N.eA y hy)
      · rw [List.mem_singleton.1 hy]; exact kA _ _ _ _ hxA'
    · rcases List.mem_append.1 hy with hy | hy
      · exact kO _ _ _ _ (h.N.eO y hy)
      · rw [List.mem_singleton.1 hy]; exact kO _ _ _ _ hxO'
    · refine List.pairwise_append.2 ⟨h.N.pA, List.pairwise_singleton _ _, fun y hy z hz g e e2 => ?_⟩
      rw [List.mem_singleton.1 hz] at e2
      exact (h1' g (.inl e2)).1 (.inr ⟨y, hy, .inl e⟩)
    · refine List.pairwise_append.2 ⟨h.N.pO, List.pairwise_singleton _ _, fun y hy z hz g e e2 => ?_⟩
      rw [List.mem_singleton.1 hz] at e2
      exact (h1' g (.inr e2)).1 (.inr ⟨y, hy, .inr e⟩)
  have kS : ∀ z, z < w.heap.size → ¬ Nbl na nn nc xs z → ¬ ((Value.slice xx.a xx.da.length xx.c).ownBlock = some z ∨ (Value.slice xx.q xx.ga.length xx.d).ownBlock = some z) → ¬ Nbl (some ⟨gx, 0, none⟩) (nn + 1) cx (xs ++ [xx]) z := by
    intro z hz hn1 hn2 hb
    rcases hbl z hb with e | e | e
    · subst e
      rcases hgx with e | e
      · exact hn1 (.inl e)
      · omega
    · exact hn1 e
    · exact hn2 e
  have fin : ∃ na' nc', TKW wB w5 gw id kn nm si en la su st ti pa tr li a n c L q m d G na' (nn + 1) nc' (xs ++ [xx]) :=
    ⟨_, _, b5, kA _ _ _ _ h.A, kO _ _ _ _ h.O, hN5, h.gl, (fun z e => kS z (own_ltN h.A.own e) (h.sA z e) (fun e2 => (h1' z e2).2.1 e)), (fun z e => kS z (own_ltN h.O.own e) (h.sO z e) (fun e2 => (h1' z e2).2.2 e)), grown_far (grown_far (grown_trans h.g G3) u4 (fun z e => (hr4 z e).1)) u5 (fun z e => by have e := Option.some.inj e; have := h.gl; omega)⟩

  first | go_end0 | refine bodyPost_ret (results_none rfl _ _ _) rfl ?_
  exact ⟨rfl, fin, fun g9 t9 cs9 hb9 hn9 hr9 => ((hb9.keep G3 (by simp)).keep u4 (fun e => hr9 e.symm)).keep u5 (fun e => hn9 (Option.some.inj e))⟩

/-- boxes of takers lie as they lay -/
def KpK (w w' : World) : Prop := ∀ g cs, BxS w g 48 cs → BxS w' g 48 cs
theorem KpK.none {w w' : World} (u : w.grownBy w' none) : KpK w w' := fun g cs hb => hb.keep u (by simp)
theorem KpK.trans {u v w : World} (h : KpK u v) (k : KpK v w) : KpK u w := fun g cs hb => k g cs (h g cs hb)
theorem KpK.bx {w w' : World} {g : Nat} {t : TypeId} {cs : Array Value} (b : BxS w g t cs) (ht : 48 ≠ t) (u : w.grownBy w' (some g)) : KpK w w' := fun g9 cs9 hb => hb.keep u (fun e => BxS.apart hb b ht (Option.some.inj e))
theorem TKW.set {wB w w' : World} {gw : Nat} {id : Int} {kn : Bool} {nm : ByteArray} {si : Int} {en : Bool} {la su : Int} {st ti pa tr li : Int} {a : Option Addr} {n c : Nat} {L : List Nat} {q : Option Addr} {m d : Nat} {G : List (Int × Int)} {na : Option Addr} {nn nc : Nat} {xs : List Nx} (h : TKW wB w gw id kn nm si en la su st ti pa tr li a n c L q m d G na nn nc xs) (u : w.grownBy w' (some gw)) {kn2 : Bool} {nm2 : ByteArray} {si2 : Int} {en2 : Bool} {la2 su2 st2 ti2 tr2 : Int} (b : BxS w' gw 112 #[.int .i64 id, .bool kn2, .string nm2, .int .i64 si2, .bool en2, .int .i64 la2, .int .i64 su2, .slice q m d, .slice a n c, .int .i64 st2, .int .i64 ti2, .int .i64 pa, .int .i64 tr2, .int .i64 li, .slice na nn nc]) :
    TKW wB w' gw id kn2 nm2 si2 en2 la2 su2 st2 ti2 pa tr2 li a n c L q m d G na nn nc xs :=
  ⟨b, h.A.kRR u (fun z e e2 => by have e := Option.some.inj e; subst e; exact own_ty h.A.own h.bx (by decide) e2), h.O.bx h.bx (by decide) u, h.N.bx h.bx (by decide) (by decide) (by decide) u, h.gl, h.sA, h.sO, grown_far h.g u (fun z e => by have e := Option.some.inj e; have := h.gl; omega)⟩
theorem TKW.keepN {wB w w' : World} {gw : Nat} {id : Int} {kn : Bool} {nm : ByteArray} {si : Int} {en : Bool} {la su : Int} {st ti pa tr li : Int} {a : Option Addr} {n c : Nat} {L : List Nat} {q : Option Addr} {m d : Nat} {G : List (Int × Int)} {na : Option Addr} {nn nc : Nat} {xs : List Nx} (h : TKW wB w gw id kn nm si en la su st ti pa tr li a n c L q m d G na nn nc xs) (u : w.grownBy w' none) : TKW wB w' gw id kn nm si en la su st ti pa tr li a n c L q m d G na nn nc xs :=
  ⟨h.bx.keep u (by simp), h.A.keep u, h.O.keep u, h.N.keep u, h.gl, h.sA, h.sO, grown_trans h.g u⟩
/-- other boxes lie as they lay -/
def FrK (gw : Nat) (na : Option Addr) (nn nc : Nat) (w w' : World) : Prop := ∀ g9 t9 cs9, BxS w g9 t9 cs9 → g9 ≠ gw → (Value.slice na nn nc).ownBlock ≠ some g9 → BxS w' g9 t9 cs9
theorem FrK.kp {wB w w' : World} {gw : Nat} {id : Int} {kn : Bool} {nm : ByteArray} {si : Int} {en : Bool} {la su : Int} {st ti pa tr li : Int} {a : Option Addr} {n c : Nat} {L : List Nat} {q : Option Addr} {m d : Nat} {G : List (Int × Int)} {na : Option Addr} {nn nc : Nat} {xs : List Nx} (h : TKW wB w gw id kn nm si en la su st ti pa tr li a n c L q m d G na nn nc xs) (f : FrK gw na nn nc w w') : KpK w w' :=
  fun g9 cs9 hb9 => f g9 _ cs9 hb9 (fun e => by subst e; exact BxS.apart hb9 h.bx (by decide) rfl) (fun e => own_ty h.N.own hb9 (by decide) e)
end
end Go.Proofs.Ytnimehkfnpepfaa
