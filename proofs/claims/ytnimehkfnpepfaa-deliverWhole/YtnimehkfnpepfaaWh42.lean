import Derived.Test.YtnimehkfnpepfaaWh41
namespace Go.Proofs.Ytnimehkfnpepfaa
open Go.RowKit
set_option maxRecDepth 100000
set_option linter.unusedVariables false
set_option linter.unusedSimpArgs false

section
def hoV (V : Tv) (kd o : Int) : Tv × List Nt := if kd = 3 then (V, [ntSeen V.id, ntDone V.id 0]) else if o = 5 then ({ V with ti := 0, tr := V.li }, []) else (V, [])
set_option maxHeartbeats 16000000 in
theorem hearOver_any (wB w : World) (gw : Nat) (V : Tv) (h : KA wB w gw V []) (kd nid : Int) (nm2 : ByteArray) (si2 su2 at2 : Int) (pa2 : Option Addr) (pn pc : Nat) (ga : Option Addr) (gm gd : Nat) (o co : Int) : Calls Try.prog 106 #[.pointer (some ⟨gw, 0, none⟩), .agg (ntA kd nid nm2 si2 su2 at2 (.slice pa2 pn pc) (.slice ga gm gd) o co)] w fun e w' => e = .returned (.tuple #[]) ∧ KA wB w' gw (hoV V kd o).1 (hoV V kd o).2 ∧ KpK w w' := by
  have HSX : Hid True := trivial
  obtain ⟨a, c, q, d, na, nc, xs, hT, h⟩ := h
  have hxs : xs = [] := List.map_eq_nil_iff.1 hT
  subst hxs
  obtain ⟨id, kn, nm, si, en, la, su, st, ti, pa, tr, li, L, G⟩ := V
  dsimp only at h HSX
  clear hT
  have b3 := BxS.new w 27 #[.int .i64 kd, .int .i64 nid, .string nm2, .int .i64 si2, .int .i64 su2, .int .i64 at2, .slice pa2 pn pc, .slice ga gm gd, .int .i64 o, .int .i64 co]
  have g3' := World.grownBy_alloc w (.cells #[.int .i64 kd, .int .i64 nid, .string nm2, .int .i64 si2, .int .i64 su2, .int .i64 at2, .slice pa2 pn pc, .slice ga gm gd, .int .i64 o, .int .i64 co] 27) none
  unfold ntA
  generalize hw1 : w.alloc (.cells #[.int .i64 kd, .int .i64 nid, .string nm2, .int .i64 si2, .int .i64 su2, .int .i64 at2, .slice pa2 pn pc, .slice ga gm gd, .int .i64 o, .int .i64 co] 27) = w1 at b3 g3'
  go_enter Try.func106, Try.ntmps106
  refine wp_seq_k fun K1 hK1 => ?_
  have HK1 : Hid _ := hK1
  clear hK1
  go_wp2
  refine HK1.out _ _ ?_
  clear HK1
  clear hw1
  obtain ⟨g3, hg3⟩ : ∃ g3, w.heap.size = g3 := ⟨_, rfl⟩
  rw [hg3] at b3 ⊢
  clear hg3
  have h1 := h.keepN g3'
  have k1 : KpK w w1 := KpK.none g3'
  have y0 : w1.cell? ⟨g3, 0, none⟩ = some (.int .i64 kd) := b3.cell 0 (by show 0 < 10; decide)
  have y8 : w1.cell? ⟨g3, 8, none⟩ = some (.int .i64 o) := b3.cell 8 (by show 8 < 10; decide)
  refine wp_block ?_
  by_cases hk : kd = 3
  · subst hk
    refine wp_seq_k fun K2 hK2 => ?_
    have HK2 : Hid _ := hK2
    clear hK2
    go_wp2
    refine HK2.out _ _ ?_
    clear HK2
    refine wp_cond_true rfl ?_
    refine wp_seq_k fun K2 hK2 => ?_
    have HK2 : Hid _ := hK2
    clear hK2
    go_wp2_with (go_at_call 104; refine (sendSeen_any _ _ _ _ _ _ _ _ _ _ _ _ _ _ _ _ _ _ _ _ _ _ _ _ _ _ _ h1 (Nat.zero_le _)).mono ?_; rintro e w4 ⟨rfl, ⟨na4, nc4, h4⟩, f4⟩)
    refine HK2.out _ _ ?_
    clear HK2
    have k4 := k1.trans (f4.kp h1)
    go_wp2_with (go_at_call 105; refine (sendDone_any _ _ _ _ _ _ _ _ _ _ _ _ _ _ _ _ _ _ _ _ _ _ _ _ _ _ _ 0 h4 (show 0 + 1 ≤ 100000 by omega)).mono ?_; rintro e w5 ⟨rfl, ⟨na5, nc5, h5⟩, f5⟩)
    try simp only [Exit.then, Exit.inBlock]
    first | go_end0 | refine bodyPost_ret (results_none rfl _ _ _) rfl ?_
    refine ⟨rfl, ?_, k4.trans (f5.kp h4)⟩
    exact KA.of (V := (⟨id, kn, nm, si, en, la, su, st, ti, pa, tr, li, L, G⟩ : Tv)) (T := [ntSeen id, ntDone id 0]) rfl h5
  · have hk2 : (kd == 3) = false := beq_eq_false_iff_ne.2 hk
    have HX : hoV (⟨id, kn, nm, si, en, la, su, st, ti, pa, tr, li, L, G⟩ : Tv) kd o = if o = 5 then ((⟨id, kn, nm, si, en, la, su, st, 0, pa, li, li, L, G⟩ : Tv), []) else ((⟨id, kn, nm, si, en, la, su, st, ti, pa, tr, li, L, G⟩ : Tv), []) := if_neg hk
    have HXX : Hid _ := HX
    clear HX hk
    by_cases h5 : o = 5
    · subst h5
      have x13 : w1.cell? ⟨gw, 13, none⟩ = some (.int .i64 li) := h1.bx.cell 13 (by show 13 < 15; decide)
      refine wp_seq_k fun K2 hK2 => ?_
      have HK2 : Hid _ := hK2
      clear hK2
      go_wp2
      refine HK2.out _ _ ?_
      clear HK2
      refine wp_cond_false rfl ?_
      refine wp_seq_k fun K2 hK2 => ?_
      have HK2 : Hid _ := hK2
      clear hK2
      go_wp2
      refine HK2.out _ _ ?_
      clear HK2
      refine wp_cond_true rfl ?_
      have s0 : True := trivial
      go_wp2_with (first
        | (have _t := s0; clear s0; refine wpList_stC _ rfl _ _ _ rfl gw 10 112 _ #[.int .i64 id, .bool kn, .string nm, .int .i64 si, .bool en, .int .i64 la, .int .i64 su, .slice q G.length d, .slice a L.length c, .int .i64 st, .int .i64 0, .int .i64 pa, .int .i64 tr, .int .i64 li, .slice na 0 nc] (.int .i64 0) rfl rfl h1.bx (stc_int _ _ _) (by show 10 < 15; decide) rfl ?_; intro w2 b2 u2; have h2 := h1.set u2 b2; have s1 : True := trivial)
        | (have _t := s1; clear s1; refine wpList_stC _ rfl _ _ _ rfl gw 12 112 _ #[.int .i64 id, .bool kn, .string nm, .int .i64 si, .bool en, .int .i64 la, .int .i64 su, .slice q G.length d, .slice a L.length c, .int .i64 st, .int .i64 0, .int .i64 pa, .int .i64 li, .int .i64 li, .slice na 0 nc] (.int .i64 li) rfl rfl h2.bx (stc_int _ _ _) (by show 12 < 15; decide) rfl ?_; intro w3 b3w u3))
      try simp only [Exit.then, Exit.inBlock]
      first | go_end0 | refine bodyPost_ret (results_none rfl _ _ _) rfl ?_
      refine ⟨rfl, ?_, (k1.trans (KpK.bx h1.bx (by decide) u2)).trans (KpK.bx h2.bx (by decide) u3)⟩
      rw [HXX.out]
      first | rw [if_pos rfl] | rw [if_pos trivial]
      exact KA.of (V := (⟨id, kn, nm, si, en, la, su, st, 0, pa, li, li, L, G⟩ : Tv)) (T := []) rfl (h2.set u3 b3w)
    · have h52 : (o == 5) = false := beq_eq_false_iff_ne.2 h5
      have H5 : Hid _ := h5
      clear h5
      go_wp2
      try simp only [Exit.then, Exit.inBlock]
      first | go_end0 | refine bodyPost_ret (results_none rfl _ _ _) rfl ?_
      refine ⟨rfl, ?_, k1⟩
      rw [HXX.out, if_neg H5.out]
      exact KA.of (V := (⟨id, kn, nm, si, en, la, su, st, ti, pa, tr, li, L, G⟩ : Tv)) (T := []) rfl h1

set_option maxHeartbeats 16000000 in
/-- a note is heard -/
theorem thear_any (wB w : World) (gw : Nat) (V : Tv) (h : KA wB w gw V []) (ho : TvQ V) (hst : V.st = 0 ∨ V.st = 3 ∨ V.st = 4) (kd nid : Int) (nm2 : ByteArray) (si2 su2 at2 : Int) (pa2 : Option Addr) (pn pc : Nat) (ga : Option Addr) (gm gd : Nat) (o co : Int) (x : Nat) (D : List Nat) (hD : Rd wB pa2 pn pc D) (hn : NtK kd si2 su2 at2 pn o x) : Calls Try.prog 79 #[.pointer (some ⟨gw, 0, none⟩), .agg (ntA kd nid nm2 si2 su2 at2 (.slice pa2 pn pc) (.slice ga gm gd) o co)] w fun e w' => e = .returned (.tuple #[]) ∧ KA wB w' gw (heV V kd o nm2 si2 su2 x D).1 (heV V kd o nm2 si2 su2 x D).2 ∧ KpK w w' := by
  have i10 := Try.info_nt
  have kG := fun wz (k : KA wB wz gw V []) (hs : V.st = 0) => hearGoing_any wB wz gw V k ho hs kd nid nm2 si2 su2 at2 pa2 pn pc ga gm gd o co x D hD hn
  have kO := fun wz (k : KA wB wz gw V []) => hearOver_any wB wz gw V k kd nid nm2 si2 su2 at2 pa2 pn pc ga gm gd o co
  unfold ntA at kG kO
  have HSX : Hid _ := hst
  have HKG : Hid _ := kG
  have HKO : Hid _ := kO
  clear kG kO hst ho hn hD
  obtain ⟨a, c, q, d, na, nc, xs, hT, h⟩ := h
  have hxs : xs = [] := List.map_eq_nil_iff.1 hT
  subst hxs
  obtain ⟨id, kn, nm, si, en, la, su, st, ti, pa, tr, li, L, G⟩ := V
  dsimp only at h HSX
  clear hT
  have b3 := BxS.new w 27 #[.int .i64 kd, .int .i64 nid, .string nm2, .int .i64 si2, .int .i64 su2, .int .i64 at2, .slice pa2 pn pc, .slice ga gm gd, .int .i64 o, .int .i64 co]
  have g3' := World.grownBy_alloc w (.cells #[.int .i64 kd, .int .i64 nid, .string nm2, .int .i64 si2, .int .i64 su2, .int .i64 at2, .slice pa2 pn pc, .slice ga gm gd, .int .i64 o, .int .i64 co] 27) none
  unfold ntA
  generalize hw1 : w.alloc (.cells #[.int .i64 kd, .int .i64 nid, .string nm2, .int .i64 si2, .int .i64 su2, .int .i64 at2, .slice pa2 pn pc, .slice ga gm gd, .int .i64 o, .int .i64 co] 27) = w1 at b3 g3'
  go_enter Try.func79, Try.ntmps79
  refine wp_seq_k fun K1 hK1 => ?_
  have HK1 : Hid _ := hK1
  clear hK1
  go_wp2
  refine HK1.out _ _ ?_
  clear HK1
  clear hw1
  obtain ⟨g3, hg3⟩ : ∃ g3, w.heap.size = g3 := ⟨_, rfl⟩
  rw [hg3] at b3 ⊢
  clear hg3
  have h1 := h.keepN g3'
  have k1 : KpK w w1 := KpK.none g3'
  have k1' : KA wB w1 gw (⟨id, kn, nm, si, en, la, su, st, ti, pa, tr, li, L, G⟩ : Tv) [] := KA.of (V := (⟨id, kn, nm, si, en, la, su, st, ti, pa, tr, li, L, G⟩ : Tv)) (T := []) rfl h1
  have y0 : w1.cell? ⟨g3, 0, none⟩ = some (.int .i64 kd) := b3.cell 0 (by show 0 < 10; decide)
  have x9 : w1.cell? ⟨gw, 9, none⟩ = some (.int .i64 st) := h1.bx.cell 9 (by show 9 < 15; decide)
  refine wp_seq_k fun K1 hK1 => ?_
  have HK1 : Hid _ := hK1
  clear hK1
  rcases HSX.out with hs | hs | hs
  · have hs : st = 0 := hs
    have HX : heV (⟨id, kn, nm, si, en, la, su, st, ti, pa, tr, li, L, G⟩ : Tv) kd o nm2 si2 su2 x D = heG (⟨id, kn, nm, si, en, la, su, st, ti, pa, tr, li, L, G⟩ : Tv) kd nm2 si2 su2 x D := by
      unfold heV
      rw [if_neg (show ¬ st = 4 by omega), if_neg (show ¬ st = 3 by omega)]
    have HXX : Hid _ := HX
    have HS : Hid _ := hs
    rw [hs] at x9
    clear HX hs
    go_wp2
    refine HK1.out _ _ ?_
    clear HK1
    refine wp_block ?_
    clear x9 y0
    have s0 : True := trivial
    go_wp2_with (first
      | (have _t := s0; clear s0; refine wpList_ldX _ rfl _ (.tmp 3) rfl g3 _ rfl b3 Try.underlying27 i10 ?_; have s1 : True := trivial)
      | (go_at_call 107; have _t := s1; clear s1; refine (HKG.out w1 k1' HS.out).mono ?_; rintro e w5 ⟨rfl, h5, k5⟩))
    try simp only [Exit.then, Exit.inBlock]
    first | go_end0 | refine bodyPost_ret (results_none rfl _ _ _) rfl ?_
    refine ⟨rfl, ?_, k1.trans k5⟩
    rw [HXX.out]
    exact h5
  · have hs : st = 3 := hs
    have HX : heV (⟨id, kn, nm, si, en, la, su, st, ti, pa, tr, li, L, G⟩ : Tv) kd o nm2 si2 su2 x D = hoV (⟨id, kn, nm, si, en, la, su, st, ti, pa, tr, li, L, G⟩ : Tv) kd o := by
      unfold heV hoV
      rw [if_neg (show ¬ st = 4 by omega), if_pos (show st = 3 from hs)]
    have HXX : Hid _ := HX
    have HS : Hid _ := hs
    rw [hs] at x9
    clear HX hs
    go_wp2
    refine HK1.out _ _ ?_
    clear HK1
    refine wp_block ?_
    clear x9 y0
    have s0 : True := trivial
    go_wp2_with (first
      | (have _t := s0; clear s0; refine wpList_ldX _ rfl _ (.tmp 3) rfl g3 _ rfl b3 Try.underlying27 i10 ?_; have s1 : True := trivial)
      | (go_at_call 106; have _t := s1; clear s1; refine (HKO.out w1 k1').mono ?_; rintro e w5 ⟨rfl, h5, k5⟩))
    try simp only [Exit.then, Exit.inBlock]
    first | go_end0 | refine bodyPost_ret (results_none rfl _ _ _) rfl ?_
    refine ⟨rfl, ?_, k1.trans k5⟩
    rw [HXX.out]
    exact h5
  · have hs : st = 4 := hs
    have HX : heV (⟨id, kn, nm, si, en, la, su, st, ti, pa, tr, li, L, G⟩ : Tv) kd o nm2 si2 su2 x D = ((⟨id, kn, nm, si, en, la, su, st, ti, pa, tr, li, L, G⟩ : Tv), if kd = 3 then [ntSeen id, ntDone id 9] else []) := by
      unfold heV
      rw [if_pos (show st = 4 from hs)]
    have HXX : Hid _ := HX
    rw [hs] at x9
    clear HX hs
    go_wp2
    refine HK1.out _ _ ?_
    clear HK1
    refine wp_block ?_
    clear x9
    by_cases hk : kd = 3
    · subst hk
      refine wp_seq_k fun K2 hK2 => ?_
      have HK2 : Hid _ := hK2
      clear hK2
      go_wp2
      refine HK2.out _ _ ?_
      clear HK2
      refine wp_cond_true rfl ?_
      refine wp_seq_k fun K2 hK2 => ?_
      have HK2 : Hid _ := hK2
      clear hK2
      go_wp2
      refine HK2.out _ _ ?_
      clear HK2
      refine wp_cond_true rfl ?_
      refine wp_seq_k fun K2 hK2 => ?_
      have HK2 : Hid _ := hK2
      clear hK2
      go_wp2_with (go_at_call 104; refine (sendSeen_any _ _ _ _ _ _ _ _ _ _ _ _ _ _ _ _ _ _ _ _ _ _ _ _ _ _ _ h1 (Nat.zero_le _)).mono ?_; rintro e w4 ⟨rfl, ⟨na4, nc4, h4⟩, f4⟩)
      refine HK2.out _ _ ?_
      clear HK2
      have k4 := k1.trans (f4.kp h1)
      go_wp2_with (go_at_call 105; refine (sendDone_any _ _ _ _ _ _ _ _ _ _ _ _ _ _ _ _ _ _ _ _ _ _ _ _ _ _ _ 9 h4 (show 0 + 1 ≤ 100000 by omega)).mono ?_; rintro e w5 ⟨rfl, ⟨na5, nc5, h5⟩, f5⟩)
      try simp only [Exit.then, Exit.inBlock]
      first | go_end0 | refine bodyPost_ret (results_none rfl _ _ _) rfl ?_
      refine ⟨rfl, ?_, k4.trans (f5.kp h4)⟩
      rw [HXX.out]
      first | rw [if_pos rfl] | rw [if_pos trivial]
      exact KA.of (V := (⟨id, kn, nm, si, en, la, su, st, ti, pa, tr, li, L, G⟩ : Tv)) (T := [ntSeen id, ntDone id 9]) rfl h5
    · have hk2 : (kd == 3) = false := beq_eq_false_iff_ne.2 hk
      have HK3 : Hid _ := hk
      clear hk
      go_wp2
      try simp only [Exit.then, Exit.inBlock]
      first | go_end0 | refine bodyPost_ret (results_none rfl _ _ _) rfl ?_
      refine ⟨rfl, ?_, k1⟩
      rw [HXX.out, if_neg HK3.out]
      exact k1'
end

section
/-- what Take answers -/
def taV (tB : Bool) (wn : Nat) (V : Tv) (H : Tv × List Nt) : Tv × List Nt × Nat := if tB = false then (zTv, [], 11) else if wn ≠ 0 then (V, [], wn) else (H.1, H.2, 0)
theorem rdk4 {w : World} {g : Nat} (h : BxS w g 22 #[.int .i64 1, .int .i64 2, .int .i64 3, .int .i64 6]) : ∀ i, i < 4 → w.cell? ⟨g, i, none⟩ = some (.int .i64 (([1, 2, 3, 6] : List Int).getD i 0)) := by
  intro i hi
  have h3 : i = 0 ∨ i = 1 ∨ i = 2 ∨ i = 3 := by omega
  rcases h3 with rfl | rfl | rfl | rfl
  · exact h.cell 0 (by show 0 < 4; decide)
  · exact h.cell 1 (by show 1 < 4; decide)
  · exact h.cell 2 (by show 2 < 4; decide)
  · exact h.cell 3 (by show 3 < 4; decide)
theorem wn_ok {kd nid id : Int} {nm : Nat} {si2 su2 at2 : Int} {pn gm : Nat} {o co : Int} {g : Bool} (h : wnE (ntB kd nid nm si2 su2 at2 pn gm o co g) nid id (hasK [1, 2, 3, 6] kd 4) = 0) : NtK kd si2 su2 at2 pn o at2.toNat ∧ nid = id ∧ ntB kd nid nm si2 su2 at2 pn gm o co g = true ∧ pn ≤ 1024 := by
  unfold wnE at h
  by_cases h1 : ntB kd nid nm si2 su2 at2 pn gm o co g = false
  · rw [if_pos h1] at h; cases h
  · rw [if_neg h1] at h
    have h1 : ntB kd nid nm si2 su2 at2 pn gm o co g = true := by cases e : ntB kd nid nm si2 su2 at2 pn gm o co g with | true => rfl | false => exact absurd e h1
    by_cases h2 : nid ≠ id
    · rw [if_pos h2] at h; cases h
    · rw [if_neg h2] at h
      by_cases h3 : hasK [1, 2, 3, 6] kd 4 = false
      · rw [if_pos h3] at h; cases h
      · have h3 : hasK [1, 2, 3, 6] kd 4 = true := by cases e : hasK [1, 2, 3, 6] kd 4 with | true => rfl | false => exact absurd e h3
        have h3 : ((((false || decide (kd = 1)) || decide (kd = 2)) || decide (kd = 3)) || decide (kd = 6)) = true := h3
        simp only [Bool.or_eq_true, decide_eq_true_eq, Bool.false_eq_true, false_or] at h3
        have h1' := h1
        unfold ntB ptB brB at h1
        simp only [Bool.and_eq_true, decide_eq_true_eq] at h1
        obtain ⟨⟨_, q1⟩, q2⟩ := h1
        exact ⟨⟨by omega, fun e => by omega, by omega, fun e => by omega, fun e => by omega⟩, by omega, h1', by omega⟩
set_option maxHeartbeats 16000000 in
theorem ta_t8 {u0 u1 u2 u3 u5 u6 u8 u9 u10 u11 u12 u13 u14 u15 u16 u17 u18 u19 u20 u21 u22 u23 u24 u25 u26 u27 u28 u29 u30 u31 u32 u33 u34 u35 u36 u37 : Value} (P : Ending → World → Prop) (wB w : World) (gw : Nat) (id : Int) (kn : Bool) (nm : ByteArray) (si : Int) (en : Bool) (la su : Int) (st ti pa tr li : Int) (a : Option Addr) (n c : Nat) (L : List Nat) (q : Option Addr) (m d : Nat) (G : List (Int × Int)) (na : Option Addr) (nn nc : Nat) (xs : List Nx) (h : TKW wB w gw id kn nm si en la su st ti pa tr li a n c L q m d G na nn nc xs) (g4 : Nat) (cs4 : Array Value) (hs4 : cs4.size = 14) (b4 : BxS w g4 48 cs4)
    (hP : ∀ w', w.grownBy w' (some g4) → P (.returned (.tuple #[.agg #[.int .i64 id, .bool kn, .string nm, .int .i64 si, .bool en, .int .i64 la, .int .i64 su, .slice q m d, .slice a n c, .int .i64 st, .int .i64 ti, .int .i64 pa, .int .i64 tr, .int .i64 li], .slice na nn nc, .int .i64 0])) w') :
    Code.wp Try.prog (tailR 8 (Try.f38.body.getD .skip)) (bodyPost Try.prog Try.f38 P) (Act.mk (List.toArray (u0 :: u1 :: u2 :: u3 :: (.pointer (some ⟨g4, 0, none⟩)) :: u5 :: u6 :: (.pointer (some ⟨gw, 0, none⟩)) :: u8 :: u9 :: u10 :: u11 :: u12 :: u13 :: u14 :: u15 :: u16 :: u17 :: u18 :: u19 :: u20 :: u21 :: u22 :: u23 :: u24 :: u25 :: u26 :: u27 :: u28 :: u29 :: u30 :: u31 :: u32 :: u33 :: u34 :: u35 :: u36 :: u37 :: [])) []) w := by
  conv => enter [2]; whnf
  have HP : Hid _ := hP
  clear hP
  have i13 := Try.info_tk
  refine wp_seq_k fun K1 hK1 => ?_
  have HK1 : Hid _ := hK1
  clear hK1
  have Gd := grown_drew w none
  have SS : BxS w.drew gw 112 #[.int .i64 id, .bool kn, .string nm, .int .i64 si, .bool en, .int .i64 la, .int .i64 su, .slice q m d, .slice a n c, .int .i64 st, .int .i64 ti, .int .i64 pa, .int .i64 tr, .int .i64 li, .slice na nn nc] := h.bx.keep Gd (by simp)
  have b4d := b4.keep Gd (by simp)
  refine wp_regionL (fun wz => BxS wz gw 112 #[.int .i64 id, .bool kn, .string nm, .int .i64 si, .bool en, .int .i64 la, .int .i64 su, .slice q m d, .slice a n c, .int .i64 st, .int .i64 ti, .int .i64 pa, .int .i64 tr, .int .i64 li, .slice na nn nc]) [] #[false, false, false, false, false, false, false, false, false, false, false] rfl (by kernel_rfl) ?_
  refine wpAnyZ_take [] 0 (.pointer (some ⟨gw, 0, none⟩)) rfl (by kernel_rfl) (fun _ _ _ h => h) SS rfl (by intro wz hz; go_simp) ?_
  try simp only [zc1, zc2, zc3, Act.put, zc4, zc5, zc6]
  refine wpAnyZ_take [] 1 (.pointer (some ⟨gw, 0, none⟩)) rfl (by kernel_rfl) (fun _ _ _ h => h) SS rfl (by intro wz hz; go_simp) ?_
  try simp only [zc1, zc2, zc3, Act.put, zc4, zc5, zc6]
  refine wpAnyZ_take [] 2 (.pointer (some ⟨gw, 0, none⟩)) rfl (by kernel_rfl) (fun _ _ _ h => h) SS rfl (by intro wz hz; go_simp) ?_
  try simp only [zc1, zc2, zc3, Act.put, zc4, zc5, zc6]
  refine wpAnyZ_take [] 3 (.agg #[.int .i64 id, .bool kn, .string nm, .int .i64 si, .bool en, .int .i64 la, .int .i64 su, .slice q m d, .slice a n c, .int .i64 st, .int .i64 ti, .int .i64 pa, .int .i64 tr, .int .i64 li]) rfl (by kernel_rfl) (fun _ _ _ h => h) SS rfl (by intro wz hz; exact ld_14k rfl rfl hz) ?_
  try simp only [zc1, zc2, zc3, Act.put, zc4, zc5, zc6]
  refine wpAnyZ_take [] 4 (.pointer (some ⟨gw, 0, none⟩)) rfl (by kernel_rfl) (fun _ _ _ h => h) SS rfl (by intro wz hz; go_simp) ?_
  try simp only [zc1, zc2, zc3, Act.put, zc4, zc5, zc6]
  refine wpAnyZ_take [] 5 (.pointer (some ⟨gw, 0, none⟩)) rfl (by kernel_rfl) (fun _ _ _ h => h) SS rfl (by intro wz hz; go_simp) ?_
  try simp only [zc1, zc2, zc3, Act.put, zc4, zc5, zc6]
  refine wpAnyZ_take [] 6 (.pointer (some ⟨gw, 14, none⟩)) rfl (by kernel_rfl) (fun _ _ _ h => h) SS rfl (by intro wz hz; go_simp) ?_
  try simp only [zc1, zc2, zc3, Act.put, zc4, zc5, zc6]
  refine wpAnyZ_take [] 7 (.slice na nn nc) rfl (by kernel_rfl) (fun _ _ _ h => h) SS rfl (by intro wz hz; have z : wz.cell? ⟨gw, 14, none⟩ = some (.slice na nn nc) := hz.cell 14 (by show 14 < 15; decide); go_simp) ?_
  try simp only [zc1, zc2, zc3, Act.put, zc4, zc5, zc6]
  have l4 := b4d.lt
  generalize w.drew = w2 at *
  refine wpAnyZ_oneB 8 rfl (by kernel_rfl) (fun KK hKK => ?_)
  refine step_stX _ rfl _ _ _ rfl g4 _ _ rfl rfl b4d i13 hs4 (by simp [Value.oneCell']) ?_
  intro w3 b43 u3
  have S3 := SS.keep u3 (fun e => BxS.apart SS b4d (by decide) (Option.some.inj e))
  refine hKK _ _ (fun _ => S3) ?_
  try simp only [zc1, zc2, zc3, Act.put, zc4, zc5, zc6]
  refine wpAnyZ_take [] 9 (.slice na nn nc) rfl (by kernel_rfl) (fun _ _ _ h => h) S3 rfl (by intro wz hz; go_simp) ?_
  try simp only [zc1, zc2, zc3, Act.put, zc4, zc5, zc6]
  refine wpAnyZ_take [] 10 (.int .i64 0) rfl (by kernel_rfl) (fun _ _ _ h => h) S3 rfl (by intro wz hz; go_simp) ?_
  try simp only [zc1, zc2, zc3, Act.put, zc4, zc5, zc6]
  refine wpAnyZ_doneB (by kernel_rfl) ?_ _
  refine HK1.out _ _ ?_
  clear HK1
  go_wp2
  refine bodyPost_ret (results_c1t2 rfl _ _ _ ⟨g4, 0, none⟩ _ _ _ rfl (BxS.load (t := 48) b43 Try.underlying48 Try.info_tk) rfl rfl) rfl ?_
  exact HP.out w3 (grown_trans (grown_weak Gd _) u3)

set_option maxHeartbeats 32000000 in
/-- Take -/
theorem take_any (V : Tv) (a q : Option Addr) (c d : Nat) (kd nid : Int) (nm2 : ByteArray) (si2 su2 at2 : Int) (pa2 : Option Addr) (pn pc : Nat) (ga : Option Addr) (gm gd : Nat) (o co : Int) (F2 : Nat → Int × Int) (D : List Nat) (w : World) (hL : Rd w a V.L.length c V.L) (hG : RdG w q V.G.length d (giF V.G)) (hn : V.L.length ≤ 140737488351232) (hm : V.G.length ≤ 8796093021952) (hD : Rd w pa2 pn pc D) (hF2 : RdG w ga gm gd F2) :
    Calls Try.prog 38 #[.agg (tkA V.id V.kn V.nm V.si V.en V.la V.su (.slice q V.G.length d) (.slice a V.L.length c) V.st V.ti V.pa V.tr V.li), .agg (ntA kd nid nm2 si2 su2 at2 (.slice pa2 pn pc) (.slice ga gm gd) o co)] w fun e w' => RK w (taV (tmB V.id V.kn V.nm V.si V.en V.la V.su (giF V.G) V.G.length V.L V.st V.ti V.pa V.tr V.li) (wnE (ntB kd nid nm2.size si2 su2 at2 pn gm o co (alG F2 65536 gm)) nid V.id (hasK [1, 2, 3, 6] kd 4)) V (heV V kd o nm2 si2 su2 at2.toNat D)).1 (taV (tmB V.id V.kn V.nm V.si V.en V.la V.su (giF V.G) V.G.length V.L V.st V.ti V.pa V.tr V.li) (wnE (ntB kd nid nm2.size si2 su2 at2 pn gm o co (alG F2 65536 gm)) nid V.id (hasK [1, 2, 3, 6] kd 4)) V (heV V kd o nm2 si2 su2 at2.toNat D)).2.1 (taV (tmB V.id V.kn V.nm V.si V.en V.la V.su (giF V.G) V.G.length V.L V.st V.ti V.pa V.tr V.li) (wnE (ntB kd nid nm2.size si2 su2 at2 pn gm o co (alG F2 65536 gm)) nid V.id (hasK [1, 2, 3, 6] kd 4)) V (heV V kd o nm2 si2 su2 at2.toNat D)).2.2 e w' := by
  have i14 := Try.info_tk
  have u14 := Try.underlying48
  have i10 := Try.info_nt
  have kM := fun wz (k1 : Rd wz a V.L.length c V.L) (k : RdG wz q V.G.length d (giF V.G)) => takerMay_any V.id V.kn V.nm V.si V.en V.la V.su q V.G.length d a V.L.length c V.st V.ti V.pa V.tr V.li (giF V.G) V.L wz k1 k hm hn
  have kA := fun wz (k1 : Rd wz a V.L.length c V.L) (k : RdG wz q V.G.length d (giF V.G)) => tkAtWork_any V.id V.kn V.nm V.si V.en V.la V.su q V.G.length d a V.L.length c V.st V.ti V.pa V.tr V.li (giF V.G) V.L wz k1 k hn hm
  have kN := fun wz b (k1 : RdG wz ga gm gd F2) (k2 : RdK wz b 4 [1, 2, 3, 6]) => wrongNote_any kd nid nm2 si2 su2 at2 pa2 pn pc ga gm gd o co F2 V.id b 4 4 [1, 2, 3, 6] wz k1 k2 (Nat.le_refl _)
  have kH := fun wz gw (h : KA w wz gw V []) (ho : TvO V) (h0 : (wnE (ntB kd nid nm2.size si2 su2 at2 pn gm o co (alG F2 65536 gm)) nid V.id (hasK [1, 2, 3, 6] kd 4)) = 0) => thear_any w wz gw V h ho.q ho.st kd nid nm2 si2 su2 at2 pa2 pn pc ga gm gd o co at2.toNat D hD (wn_ok h0).1
  have hgo := fun h => tmB_go (V := V) h
  have HGO : Hid _ := hgo
  clear hgo
  generalize (heV V kd o nm2 si2 su2 at2.toNat D) = H at kH
  generalize (wnE (ntB kd nid nm2.size si2 su2 at2 pn gm o co (alG F2 65536 gm)) nid V.id (hasK [1, 2, 3, 6] kd 4)) = E at kN kH
  generalize (tmB V.id V.kn V.nm V.si V.en V.la V.su (giF V.G) V.G.length V.L V.st V.ti V.pa V.tr V.li) = gB at kM HGO
  unfold tkA at kM kA
  unfold ntA at kN kH
  have HKH : Hid _ := kH
  have HKN : Hid _ := kN
  clear kH kN
  have b1 := BxS.new w 48 #[.int .i64 V.id, .bool V.kn, .string V.nm, .int .i64 V.si, .bool V.en, .int .i64 V.la, .int .i64 V.su, .slice q V.G.length d, .slice a V.L.length c, .int .i64 V.st, .int .i64 V.ti, .int .i64 V.pa, .int .i64 V.tr, .int .i64 V.li]
  have y1 := World.grownBy_alloc w (.cells #[.int .i64 V.id, .bool V.kn, .string V.nm, .int .i64 V.si, .bool V.en, .int .i64 V.la, .int .i64 V.su, .slice q V.G.length d, .slice a V.L.length c, .int .i64 V.st, .int .i64 V.ti, .int .i64 V.pa, .int .i64 V.tr, .int .i64 V.li] 48) none
  unfold tkA ntA
  have hz1 : (w.alloc (.cells #[.int .i64 V.id, .bool V.kn, .string V.nm, .int .i64 V.si, .bool V.en, .int .i64 V.la, .int .i64 V.su, .slice q V.G.length d, .slice a V.L.length c, .int .i64 V.st, .int .i64 V.ti, .int .i64 V.pa, .int .i64 V.tr, .int .i64 V.li] 48)).heap.size = w.heap.size + 1 := by simp
  generalize hw1 : w.alloc (.cells #[.int .i64 V.id, .bool V.kn, .string V.nm, .int .i64 V.si, .bool V.en, .int .i64 V.la, .int .i64 V.su, .slice q V.G.length d, .slice a V.L.length c, .int .i64 V.st, .int .i64 V.ti, .int .i64 V.pa, .int .i64 V.tr, .int .i64 V.li] 48) = w1 at b1 y1 hz1
  have b2 := BxS.new w1 27 #[.int .i64 kd, .int .i64 nid, .string nm2, .int .i64 si2, .int .i64 su2, .int .i64 at2, .slice pa2 pn pc, .slice ga gm gd, .int .i64 o, .int .i64 co]
  have y2 := World.grownBy_alloc w1 (.cells #[.int .i64 kd, .int .i64 nid, .string nm2, .int .i64 si2, .int .i64 su2, .int .i64 at2, .slice pa2 pn pc, .slice ga gm gd, .int .i64 o, .int .i64 co] 27) none
  have hz2 : (w1.alloc (.cells #[.int .i64 kd, .int .i64 nid, .string nm2, .int .i64 si2, .int .i64 su2, .int .i64 at2, .slice pa2 pn pc, .slice ga gm gd, .int .i64 o, .int .i64 co] 27)).heap.size = w.heap.size + 2 := by simp [hz1]
  rw [hz1] at b2
  generalize hw2 : w1.alloc (.cells #[.int .i64 kd, .int .i64 nid, .string nm2, .int .i64 si2, .int .i64 su2, .int .i64 at2, .slice pa2 pn pc, .slice ga gm gd, .int .i64 o, .int .i64 co] 27) = w2 at b2 y2 hz2
  have b3 := BxS.new w2 48 #[.int .i64 0, .bool false, .string ⟨#[]⟩, .int .i64 0, .bool false, .int .i64 0, .int .i64 0, .slice none 0 0, .slice none 0 0, .int .i64 0, .int .i64 0, .int .i64 0, .int .i64 0, .int .i64 0]
  have y3 := World.grownBy_alloc w2 (.cells #[.int .i64 0, .bool false, .string ⟨#[]⟩, .int .i64 0, .bool false, .int .i64 0, .int .i64 0, .slice none 0 0, .slice none 0 0, .int .i64 0, .int .i64 0, .int .i64 0, .int .i64 0, .int .i64 0] 48) none
  rw [hz2] at b3
  generalize hw3 : w2.alloc (.cells #[.int .i64 0, .bool false, .string ⟨#[]⟩, .int .i64 0, .bool false, .int .i64 0, .int .i64 0, .slice none 0 0, .slice none 0 0, .int .i64 0, .int .i64 0, .int .i64 0, .int .i64 0, .int .i64 0] 48) = w3 at b3 y3
  have b1 := (b1.keep y2 (by simp)).keep y3 (by simp)
  have b2 := b2.keep y3 (by simp)
  have G3 := grown_trans (grown_trans y1 y2) y3
  go_enter Try.func38, Try.ntmps38
  refine wp_seq_k fun K1 hK1 => ?_
  have HK1 : Hid _ := hK1
  clear hK1
  go_wp2
  refine HK1.out _ _ ?_
  clear HK1
  clear hw1 hw2 hw3 y1 y2 y3 hz1 hz2
  have s0 : True := trivial
  cases gB with
  | false =>
    go_wp2_with (first
      | (have _t := s0; clear s0; refine wpList_ldX _ rfl _ (.tmp 2) rfl w.heap.size _ rfl b1 Try.underlying48 i14 ?_; have s1 : True := trivial)
      | (go_at_call 77; have _t := s1; clear s1; refine (kM w3 (hL.keep G3) (hG.keep G3)).mono ?_; rintro e w4 ⟨rfl, y4⟩; have b34 := b3.keep y4 (by simp); have s2 : True := trivial)
      | (have _t := s2; clear s2; refine wpList_stX _ rfl _ (.tmp 4) (.tmp 12) rfl (w.heap.size + 2) _ _ rfl rfl b34 i14 rfl (by simp [Value.oneCell']) ?_; intro w5 b35 u5))
    refine bodyPost_ret (results_c1t2 rfl _ _ _ ⟨w.heap.size + 2, 0, none⟩ _ _ _ rfl (BxS.load (t := 48) b35 Try.underlying48 Try.info_tk) rfl rfl) rfl ?_
    exact ⟨none, 0, none, 0, none, 0, [], rfl, rfl, Ans.nil _ _, OwGi.nil _ _, OwN.nil _ _, (fun z e => by cases e), (fun z e => by cases e), grown_far (grown_trans G3 y4) u5 (fun z e => by have e := Option.some.inj e; omega)⟩
  | true =>
    have HO : Hid _ := HGO.out rfl
    refine wp_seq_k fun K2 hK2 => ?_
    have HK2 : Hid _ := hK2
    clear hK2
    go_wp2_with (first
      | (have _t := s0; clear s0; refine wpList_ldX _ rfl _ (.tmp 2) rfl w.heap.size _ rfl b1 Try.underlying48 i14 ?_; have s1 : True := trivial)
      | (go_at_call 77; have _t := s1; clear s1; refine (kM w3 (hL.keep G3) (hG.keep G3)).mono ?_; rintro e w4 ⟨rfl, y4⟩; have s2 : True := trivial))
    refine HK2.out _ _ ?_
    clear HK2
    have b14 := b1.keep y4 (by simp)
    have b24 := b2.keep y4 (by simp)
    have b34 := b3.keep y4 (by simp)
    have G4 := grown_trans G3 y4
    refine wp_seq_k fun K3 hK3 => ?_
    have HK3 : Hid _ := hK3
    clear hK3
    go_wp2_with (first
      | (have _t := s2; clear s2; refine wpList_ldX _ rfl _ (.tmp 2) rfl w.heap.size _ rfl b14 Try.underlying48 i14 ?_; have s3 : True := trivial)
      | (go_at_call 78; have _t := s3; clear s3; refine (kA w4 (hL.keep G4) (hG.keep G4)).mono ?_; rintro e w5 ⟨gw, a', c', q', d', rfl, bw, hA, hO, hgw, y5⟩))
    refine HK3.out _ _ ?_
    clear HK3
    rw [tab_giF] at hO
    have z4 := G4.size
    have hW : TKW w w5 gw V.id V.kn V.nm V.si V.en V.la V.su V.st V.ti V.pa V.tr V.li a' V.L.length c' V.L q' V.G.length d' V.G none 0 0 [] := ⟨bw, hA.wide z4, hO.wide z4, OwN.nil _ _, by omega, (fun z e => nbl_nil), (fun z e => nbl_nil), grown_trans G4 y5⟩
    have b15 := b14.keep y5 (by simp)
    have b25 := b24.keep y5 (by simp)
    have b35 := b34.keep y5 (by simp)
    have G5 := grown_trans G4 y5
    have x0 : w5.cell? ⟨w.heap.size, 0, none⟩ = some (.int .i64 V.id) := b15.cell 0 (by show 0 < 14; decide)
    have bK := BxS.new w5 22 #[.int .i64 1, .int .i64 2, .int .i64 3, .int .i64 6]
    have yK := World.grownBy_alloc w5 (.cells #[.int .i64 1, .int .i64 2, .int .i64 3, .int .i64 6] 22) none
    generalize hw6 : w5.alloc (.cells #[.int .i64 1, .int .i64 2, .int .i64 3, .int .i64 6] 22) = w6 at bK yK
    have G6 := grown_trans G5 yK
    have kN := HKN.out w6 w5.heap.size (hF2.keep G6) ⟨rfl, by decide, rdk4 bK⟩
    have hW6 := hW.keepN yK
    have b26 := b25.keep yK (by simp)
    have b36 := b35.keep yK (by simp)
    refine wp_seq_k fun K4 hK4 => ?_
    have HK4 : Hid _ := hK4
    clear hK4
    have s0 : True := trivial
    by_cases hE : E = 0
    · subst hE
      refine wp_seq_k fun K5 hK5 => ?_
      have HK5 : Hid _ := hK5
      clear hK5
      go_wp2_with (first
        | (have _t := s0; clear s0; refine wpList_ldX _ rfl _ (.tmp 3) rfl (w.heap.size + 1) _ rfl b25 Try.underlying27 i10 ?_; have s1 : True := trivial)
        | (go_at_call 69; have _t := s1; clear s1; refine kN.mono ?_; rintro e w7 ⟨rfl, y7⟩))
      refine HK5.out _ _ ?_
      clear HK5
      go_wp2
      try simp only [Exit.then]
      refine HK4.out _ _ ?_
      clear HK4
      have hW7 := hW6.keepN y7
      have b27 := b26.keep y7 (by simp)
      have b37 := b36.keep y7 (by simp)
      have HX : Hid (taV true 0 V H = (H.1, H.2, 0)) := rfl
      rw [HX.out]
      have kH := HKH.out w7 gw ⟨a', c', q', d', none, 0, [], rfl, hW7⟩ HO.out (by first | rfl | trivial)
      obtain ⟨W, T⟩ := H
      dsimp only at kH ⊢
      refine wp_seq_k fun K4 hK4 => ?_
      have HK4 : Hid _ := hK4
      clear hK4
      have s0 : True := trivial
      go_wp2_with (first
        | (have _t := s0; clear s0; refine wpList_ldX _ rfl _ (.tmp 3) rfl (w.heap.size + 1) _ rfl b27 Try.underlying27 i10 ?_; have s1 : True := trivial)
        | (go_at_call 79; have _t := s1; clear s1; refine kH.mono ?_; rintro e w8 ⟨rfl, h8, k8⟩))
      refine HK4.out _ _ ?_
      clear HK4
      have b38 := k8 _ _ b37
      obtain ⟨a8, c8, q8, d8, na8, nc8, xs8, hT8, h8⟩ := h8
      have hxl : xs8.length = T.length := by rw [← hT8, List.length_map]
      rw [hxl] at h8
      refine ta_t8 _ w w8 gw W.id W.kn W.nm W.si W.en W.la W.su W.st W.ti W.pa W.tr W.li a8 W.L.length c8 W.L q8 W.G.length d8 W.G na8 T.length nc8 xs8 h8 (w.heap.size + 2) _ rfl b38 ?_
      intro w' u9
      exact ⟨a8, c8, q8, d8, na8, nc8, xs8, rfl, hT8, h8.A.kRR u9 (fun z e e2 => by have e := Option.some.inj e; subst e; exact own_ty h8.A.own b38 (by decide) e2), h8.O.bx b38 (by decide) u9, h8.N.bx b38 (by decide) (by decide) (by decide) u9, h8.sA, h8.sO, grown_far h8.g u9 (fun z e => by have e := Option.some.inj e; omega)⟩
    · have hE2 : ¬ ((E : Nat) : Int) = 0 := by omega
      have HX : Hid (taV true E V H = (V, [], E)) := by show _ = _; unfold taV; rw [if_neg (by decide), if_pos hE]
      rw [HX.out]
      clear HX
      refine wp_seq_k fun K5 hK5 => ?_
      have HK5 : Hid _ := hK5
      clear hK5
      go_wp2_with (first
        | (have _t := s0; clear s0; refine wpList_ldX _ rfl _ (.tmp 3) rfl (w.heap.size + 1) _ rfl b25 Try.underlying27 i10 ?_; have s1 : True := trivial)
        | (go_at_call 69; have _t := s1; clear s1; refine kN.mono ?_; rintro e w7 ⟨rfl, y7⟩))
      refine HK5.out _ _ ?_
      clear HK5
      have hW7 := hW6.keepN y7
      have b37 := b36.keep y7 (by simp)
      have k0 : w7.cell? ⟨gw, 0, none⟩ = some (.int .i64 V.id) := hW7.bx.cell 0 (by show 0 < 15; decide)
      have k1 : w7.cell? ⟨gw, 1, none⟩ = some (.bool V.kn) := hW7.bx.cell 1 (by show 1 < 15; decide)
      have k2 : w7.cell? ⟨gw, 2, none⟩ = some (.string V.nm) := hW7.bx.cell 2 (by show 2 < 15; decide)
      have k3 : w7.cell? ⟨gw, 3, none⟩ = some (.int .i64 V.si) := hW7.bx.cell 3 (by show 3 < 15; decide)
      have k4 : w7.cell? ⟨gw, 4, none⟩ = some (.bool V.en) := hW7.bx.cell 4 (by show 4 < 15; decide)
      have k5 : w7.cell? ⟨gw, 5, none⟩ = some (.int .i64 V.la) := hW7.bx.cell 5 (by show 5 < 15; decide)
      have k6 : w7.cell? ⟨gw, 6, none⟩ = some (.int .i64 V.su) := hW7.bx.cell 6 (by show 6 < 15; decide)
      have k7 : w7.cell? ⟨gw, 7, none⟩ = some (.slice q' V.G.length d') := hW7.bx.cell 7 (by show 7 < 15; decide)
      have k8 : w7.cell? ⟨gw, 8, none⟩ = some (.slice a' V.L.length c') := hW7.bx.cell 8 (by show 8 < 15; decide)
      have k9 : w7.cell? ⟨gw, 9, none⟩ = some (.int .i64 V.st) := hW7.bx.cell 9 (by show 9 < 15; decide)
      have k10 : w7.cell? ⟨gw, 10, none⟩ = some (.int .i64 V.ti) := hW7.bx.cell 10 (by show 10 < 15; decide)
      have k11 : w7.cell? ⟨gw, 11, none⟩ = some (.int .i64 V.pa) := hW7.bx.cell 11 (by show 11 < 15; decide)
      have k12 : w7.cell? ⟨gw, 12, none⟩ = some (.int .i64 V.tr) := hW7.bx.cell 12 (by show 12 < 15; decide)
      have k13 : w7.cell? ⟨gw, 13, none⟩ = some (.int .i64 V.li) := hW7.bx.cell 13 (by show 13 < 15; decide)
      clear HK4
      have s0 : True := trivial
      go_wp2_with (have _t := s0; clear s0; refine wpList_stX _ rfl _ (.tmp 4) (.tmp 25) rfl (w.heap.size + 2) _ _ rfl rfl b37 i14 rfl (by simp [Value.oneCell']) ?_; intro w8 b38 u8)
      refine bodyPost_ret (results_c1t2 rfl _ _ _ ⟨w.heap.size + 2, 0, none⟩ _ _ _ rfl (BxS.load (t := 48) b38 Try.underlying48 Try.info_tk) rfl rfl) rfl ?_
      exact ⟨a', c', q', d', none, 0, [], rfl, rfl, hW7.A.kRR u8 (fun z e e2 => by have e := Option.some.inj e; subst e; exact own_ty hW7.A.own b37 (by decide) e2), hW7.O.bx b37 (by decide) u8, OwN.nil _ _, (fun z e => nbl_nil), (fun z e => nbl_nil), grown_far hW7.g u8 (fun z e => by have e := Option.some.inj e; omega)⟩
end
end Go.Proofs.Ytnimehkfnpepfaa
