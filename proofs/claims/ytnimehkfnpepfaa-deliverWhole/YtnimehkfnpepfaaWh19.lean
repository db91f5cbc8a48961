import Derived.Test.YtnimehkfnpepfaaWh6
import Derived.Test.YtnimehkfnpepfaaWh18
import Derived.Lib.MinMax
namespace Go.Proofs.Ytnimehkfnpepfaa
open Go.RowKit
set_option maxRecDepth 100000
set_option linter.unusedVariables false
set_option linter.unusedSimpArgs false

section
theorem bytes_nil {s : ByteArray} (h : s.data.toList = []) : s = ⟨#[]⟩ := by
  obtain ⟨d⟩ := s
  have e : d = #[] := Array.toList_eq_nil_iff.1 h
  rw [e]
/-- may what a taker's Meta told be so? -/
def toA (kn : Bool) (nm : ByteArray) (si : Int) : Bool := if kn = true then kwB nm.size 1 32 else (decide (nm = ⟨#[]⟩) && decide (si = 0))
/-- may what its End told be so? -/
def toE (en : Bool) (la su : Int) : Bool := if en = true then true else (decide (la = 0) && decide (su = 0))
/-- are the numbers in their bounds? -/
def toC (si la su : Int) : Bool := kwB si 0 65536 && kwB la 0 65536 && kwB su 0 4294967295
def toB (kn : Bool) (nm : ByteArray) (si : Int) (en : Bool) (la su : Int) : Bool := toA kn nm si && toE en la su && toC si la su

set_option maxHeartbeats 16000000 in
theorem toldMay_any (id : Int) (kn : Bool) (nm : ByteArray) (si : Int) (en : Bool) (la su : Int) (q : Option Addr) (m d : Nat) (a : Option Addr) (n c : Nat) (st ti pa tr li : Int) (w : World) :
    Calls Try.prog 100 #[.agg (tkA id kn nm si en la su (.slice q m d) (.slice a n c) st ti pa tr li)] w fun e w' => e = .returned (.bool (toB kn nm si en la su)) ∧ w.grownBy w' none := by
  have k0 := fun wz => nameMay_any nm wz
  have k3 := fun wz => dwithin_any si 0 65536 wz
  have k4 := fun wz => dwithin_any la 0 65536 wz
  have k5 := fun wz => dwithin_any su 0 4294967295 wz
  have b1 := BxS.new w 48 #[.int .i64 id, .bool kn, .string nm, .int .i64 si, .bool en, .int .i64 la, .int .i64 su, .slice q m d, .slice a n c, .int .i64 st, .int .i64 ti, .int .i64 pa, .int .i64 tr, .int .i64 li]
  have y1 := World.grownBy_alloc w (.cells #[.int .i64 id, .bool kn, .string nm, .int .i64 si, .bool en, .int .i64 la, .int .i64 su, .slice q m d, .slice a n c, .int .i64 st, .int .i64 ti, .int .i64 pa, .int .i64 tr, .int .i64 li] 48) none
  unfold tkA
  generalize hw1 : w.alloc (.cells #[.int .i64 id, .bool kn, .string nm, .int .i64 si, .bool en, .int .i64 la, .int .i64 su, .slice q m d, .slice a n c, .int .i64 st, .int .i64 ti, .int .i64 pa, .int .i64 tr, .int .i64 li] 48) = w1 at b1 y1
  obtain ⟨e0, e1, e2, e3, e4, e5, e6, e7, e8, e9, e10, e11, e12, e13⟩ := (b1).cell14
  have HX : Hid (toB kn nm si en la su = (toA kn nm si && toE en la su && toC si la su)) := rfl
  rw [HX.out]
  clear HX
  obtain ⟨A, hA⟩ : ∃ A, toA kn nm si = A := ⟨_, rfl⟩
  obtain ⟨B, hB⟩ : ∃ B, toE en la su = B := ⟨_, rfl⟩
  have HA : Hid _ := hA
  have HB : Hid _ := hB
  rw [hA, hB]
  clear hA hB
  unfold toC
  go_enter Try.func100, Try.ntmps100
  refine wp_seq_k fun K1 hK1 => ?_
  have HK1 : Hid _ := hK1
  clear hK1
  go_wp2
  refine HK1.out _ _ ?_
  clear HK1
  clear hw1
  obtain ⟨g1, hg1⟩ : ∃ g1, w.heap.size = g1 := ⟨_, rfl⟩
  rw [hg1] at e0 e1 e2 e3 e4 e5 e6 e7 e8 e9 e10 e11 e12 e13 b1 ⊢
  clear hg1
  refine wp_seq_k fun K1 hK1 => ?_
  have HK1 : Hid _ := hK1
  clear hK1
  have HT : Hid (∀ u3 u4 u5 u6 u7 u8 u9 u10 u11 u12 u13 u14 u15 u16 u17 u18 u19 u20 u21 u22 u23 u24 u25 u26 u27 u28 u29 u30 u31 u32 u33 u34 u35 u36 u37 u38 u39 u40 u41 u42 u43 u44 u45 u46 u47 u48 u49 u50 u51 : Value, A = true → K1 (Act.mk #[.agg #[.int .i64 id, .bool kn, .string nm, .int .i64 si, .bool en, .int .i64 la, .int .i64 su, .slice q m d, .slice a n c, .int .i64 st, .int .i64 ti, .int .i64 pa, .int .i64 tr, .int .i64 li], .pointer (some ⟨g1, 0, none⟩), .bool false, u3, u4, u5, u6, u7, u8, u9, u10, u11, u12, u13, u14, u15, u16, u17, u18, u19, u20, u21, u22, u23, u24, u25, u26, u27, u28, u29, u30, u31, u32, u33, u34, u35, u36, u37, u38, u39, u40, u41, u42, u43, u44, u45, u46, u47, u48, u49, u50, u51] []) w1) := by
    show ∀ u3 u4 u5 u6 u7 u8 u9 u10 u11 u12 u13 u14 u15 u16 u17 u18 u19 u20 u21 u22 u23 u24 u25 u26 u27 u28 u29 u30 u31 u32 u33 u34 u35 u36 u37 u38 u39 u40 u41 u42 u43 u44 u45 u46 u47 u48 u49 u50 u51 : Value, _
    intro u3 u4 u5 u6 u7 u8 u9 u10 u11 u12 u13 u14 u15 u16 u17 u18 u19 u20 u21 u22 u23 u24 u25 u26 u27 u28 u29 u30 u31 u32 u33 u34 u35 u36 u37 u38 u39 u40 u41 u42 u43 u44 u45 u46 u47 u48 u49 u50 u51 hA
    subst hA
    clear HA k0
    refine HK1.out _ _ ?_
    clear HK1
    refine wp_seq_k fun K1 hK1 => ?_
    have HK1 : Hid _ := hK1
    clear hK1
    have HT : Hid (∀ u3 u4 u5 u6 u7 u8 u9 u10 u11 u12 u13 u14 u15 u16 u17 u18 u19 u20 u21 u22 u23 u24 u25 u26 u27 u28 u29 u30 u31 u32 u33 u34 u35 u36 u37 u38 u39 u40 u41 u42 u43 u44 u45 u46 u47 u48 u49 u50 u51 : Value, B = true → K1 (Act.mk #[.agg #[.int .i64 id, .bool kn, .string nm, .int .i64 si, .bool en, .int .i64 la, .int .i64 su, .slice q m d, .slice a n c, .int .i64 st, .int .i64 ti, .int .i64 pa, .int .i64 tr, .int .i64 li], .pointer (some ⟨g1, 0, none⟩), .bool false, u3, u4, u5, u6, u7, u8, u9, u10, u11, u12, u13, u14, u15, u16, u17, u18, u19, u20, u21, u22, u23, u24, u25, u26, u27, u28, u29, u30, u31, u32, u33, u34, u35, u36, u37, u38, u39, u40, u41, u42, u43, u44, u45, u46, u47, u48, u49, u50, u51] []) w1) := by
      show ∀ u3 u4 u5 u6 u7 u8 u9 u10 u11 u12 u13 u14 u15 u16 u17 u18 u19 u20 u21 u22 u23 u24 u25 u26 u27 u28 u29 u30 u31 u32 u33 u34 u35 u36 u37 u38 u39 u40 u41 u42 u43 u44 u45 u46 u47 u48 u49 u50 u51 : Value, _
      intro u3 u4 u5 u6 u7 u8 u9 u10 u11 u12 u13 u14 u15 u16 u17 u18 u19 u20 u21 u22 u23 u24 u25 u26 u27 u28 u29 u30 u31 u32 u33 u34 u35 u36 u37 u38 u39 u40 u41 u42 u43 u44 u45 u46 u47 u48 u49 u50 u51 hB
      subst hB
      clear HB
      refine HK1.out _ _ ?_
      clear HK1
      generalize kwB si 0 65536 = b3 at k3 ⊢
      generalize kwB la 0 65536 = b4 at k4 ⊢
      generalize kwB su 0 4294967295 = b5 at k5 ⊢
      have s3 : True := trivial
      cases b3 <;> cases b4 <;> cases b5 <;>
      · go_wp2_with (first
      | (go_at_call 84; have _t := s3; clear s3; refine (k3 _).mono ?_; rintro e wx ⟨rfl, hwx⟩; have hwx := hwx.symm; subst hwx; have s4 : True := trivial)
      | (go_at_call 84; have _t := s4; clear s4; refine (k4 _).mono ?_; rintro e wx ⟨rfl, hwx⟩; have hwx := hwx.symm; subst hwx; have s5 : True := trivial)
      | (go_at_call 84; have _t := s5; clear s5; refine (k5 _).mono ?_; rintro e wx ⟨rfl, hwx⟩; have hwx := hwx.symm; subst hwx))
        try go_ret
        exact ⟨rfl, y1⟩
    cases en with
    | true =>
      have hB : B = true := HB.out.symm
      go_wp2
      try simp only [Exit.then]
      exact HT.out _ _ _ _ _ _ _ _ _ _ _ _ _ _ _ _ _ _ _ _ _ _ _ _ _ _ _ _ _ _ _ _ _ _ _ _ _ _ _ _ _ _ _ _ _ _ _ _ _ hB
    | false =>
      have hBe : (decide (la = 0) && decide (su = 0)) = B := HB.out
      by_cases h5 : la = 0
      · by_cases h6 : su = 0
        · have hB : B = true := by rw [← hBe, decide_eq_true h5, decide_eq_true h6]; rfl
          subst h5 h6
          have HBB : Hid _ := hB
          clear hBe hB HB
          go_wp2
          try simp only [Exit.then]
          exact HT.out _ _ _ _ _ _ _ _ _ _ _ _ _ _ _ _ _ _ _ _ _ _ _ _ _ _ _ _ _ _ _ _ _ _ _ _ _ _ _ _ _ _ _ _ _ _ _ _ _ HBB.out
        · have hB : B = false := by rw [← hBe, decide_eq_false h6, Bool.and_false]
          have b6 : (su == 0) = false := beq_eq_false_iff_ne.2 h6
          subst h5
          clear hBe HB
          subst hB
          clear HT HK1
          go_wp2
          try simp only [Exit.then]
          try go_ret
          exact ⟨rfl, y1⟩
      · have hB : B = false := by rw [← hBe, decide_eq_false h5, Bool.false_and]
        have b5 : (la == 0) = false := beq_eq_false_iff_ne.2 h5
        clear hBe HB
        subst hB
        clear HT HK1
        go_wp2
        try simp only [Exit.then]
        try go_ret
        exact ⟨rfl, y1⟩
  have s0 : True := trivial
  cases kn with
  | true =>
    have hAe : kwB nm.size 1 32 = A := HA.out
    rw [hAe] at k0
    clear hAe HA
    cases A with
    | true =>
      go_wp2_with (go_at_call 90; have _t := s0; clear s0; refine (k0 _).mono ?_; rintro e wx ⟨rfl, hwx⟩; have hwx := hwx.symm; subst hwx)
      try simp only [Exit.then]
      exact HT.out _ _ _ _ _ _ _ _ _ _ _ _ _ _ _ _ _ _ _ _ _ _ _ _ _ _ _ _ _ _ _ _ _ _ _ _ _ _ _ _ _ _ _ _ _ _ _ _ _ (by first | rfl | trivial)
    | false =>
      clear HT HK1
      go_wp2_with (go_at_call 90; have _t := s0; clear s0; refine (k0 _).mono ?_; rintro e wx ⟨rfl, hwx⟩; have hwx := hwx.symm; subst hwx)
      try simp only [Exit.then]
      try go_ret
      exact ⟨rfl, y1⟩
  | false =>
    have hAe : (decide (nm = ⟨#[]⟩) && decide (si = 0)) = A := HA.out
    clear k0
    by_cases h2 : nm = ⟨#[]⟩
    · by_cases h3 : si = 0
      · have hA : A = true := by rw [← hAe, decide_eq_true h2, decide_eq_true h3]; rfl
        subst h2 h3
        have HBB : Hid _ := hA
        clear hAe hA HA
        go_wp2
        try simp only [Exit.then]
        exact HT.out _ _ _ _ _ _ _ _ _ _ _ _ _ _ _ _ _ _ _ _ _ _ _ _ _ _ _ _ _ _ _ _ _ _ _ _ _ _ _ _ _ _ _ _ _ _ _ _ _ HBB.out
      · have hA : A = false := by rw [← hAe, decide_eq_false h3, Bool.and_false]
        have b3 : (si == 0) = false := beq_eq_false_iff_ne.2 h3
        subst h2
        clear hAe HA
        subst hA
        clear HT HK1
        go_wp2
        try simp only [Exit.then]
        try go_ret
        exact ⟨rfl, y1⟩
    · have hA : A = false := by rw [← hAe, decide_eq_false h2, Bool.false_and]
      have b2 : nm.toList.isEmpty = false := by
        rw [ByteArray.toList_eq]
        cases hl : nm.data.toList with
        | nil => exact absurd (bytes_nil hl) h2
        | cons _ _ => rfl
      have b2' : ¬ nm.toList = [] := by intro e; rw [e] at b2; exact absurd b2 (by decide)
      clear hAe HA
      subst hA
      clear HT HK1
      go_wp2
      try simp only [Exit.then]
      try go_ret
      exact ⟨rfl, y1⟩
end
end Go.Proofs.Ytnimehkfnpepfaa
