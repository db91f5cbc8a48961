import Derived.Test.YtnimehkfnpepfaaWh21
import Derived.Test.YtnimehkfnpepfaaWh22
import Derived.Test.YtnimehkfnpepfaaWh24
namespace Go.Proofs.Ytnimehkfnpepfaa
open Go.RowKit
set_option maxRecDepth 100000
set_option linter.unusedVariables false
set_option linter.unusedSimpArgs false

section
def xSeen (id : Int) : Nx := ⟨6, id, ⟨#[]⟩, 0, 0, 0, [], [], 5, 0, none, 0, none, 0⟩

set_option maxHeartbeats 8000000 in
theorem hear_failed (wB w : World) (gw : Nat) (id : Int) (nm : ByteArray) (mo bu st : Int) (fi : Bool) (at' ti pa tr li : Int) (a : Option Addr) (n c : Nat) (L : List Nat) (q : Option Addr) (m d : Nat) (G : List (Int × Int)) (na : Option Addr) (nn nc : Nat) (xs : List Nx) (kd nid : Int) (nm2 : ByteArray) (si su at2 : Int) (pa2 : Option Addr) (pn pc : Nat) (ga : Option Addr) (gm gd : Nat) (o co : Int) (h : GW wB w gw id nm mo bu st fi at' ti pa tr li a n c L q m d G na nn nc xs) (hst : st = 4) : Calls Try.prog 70 #[.pointer (some ⟨gw, 0, none⟩), .agg (ntA kd nid nm2 si su at2 (.slice pa2 pn pc) (.slice ga gm gd) o co)] w fun e w' => e = .returned (.tuple #[]) ∧ GW wB w' gw id nm mo bu st fi at' ti pa tr li a n c L q m d G na nn nc xs ∧ KpT w w' := by
  have b0 := BxS.new w 27 #[.int .i64 kd, .int .i64 nid, .string nm2, .int .i64 si, .int .i64 su, .int .i64 at2, .slice pa2 pn pc, .slice ga gm gd, .int .i64 o, .int .i64 co]
  have g0 := World.grownBy_alloc w (.cells #[.int .i64 kd, .int .i64 nid, .string nm2, .int .i64 si, .int .i64 su, .int .i64 at2, .slice pa2 pn pc, .slice ga gm gd, .int .i64 o, .int .i64 co] 27) none
  unfold ntA
  generalize hw0 : w.alloc (.cells #[.int .i64 kd, .int .i64 nid, .string nm2, .int .i64 si, .int .i64 su, .int .i64 at2, .slice pa2 pn pc, .slice ga gm gd, .int .i64 o, .int .i64 co] 27) = w0 at b0 g0
  have l0 := h.bx.lt
  have h0 := h.keepN g0
  obtain ⟨e0, e1, e2, e3, e4, e5, e6, e7, e8, e9⟩ := b0.cell10
  have x5 : w0.cell? ⟨gw, 5, none⟩ = some (.int .i64 st) := h0.bx.cell 5 (by show 5 < 14; decide)
  subst hst
  go_enter Try.func70, Try.ntmps70
  go_wp2
  first | go_end0 | refine bodyPost_ret (results_none rfl _ _ _) rfl ?_
  exact ⟨rfl, h0, KpT.none g0⟩

set_option maxHeartbeats 8000000 in
theorem hear_over (wB w : World) (gw : Nat) (id : Int) (nm : ByteArray) (mo bu st : Int) (fi : Bool) (at' ti pa tr li : Int) (a : Option Addr) (n c : Nat) (L : List Nat) (q : Option Addr) (m d : Nat) (G : List (Int × Int)) (na : Option Addr) (nn nc : Nat) (xs : List Nx) (kd nid : Int) (nm2 : ByteArray) (si su at2 : Int) (pa2 : Option Addr) (pn pc : Nat) (ga : Option Addr) (gm gd : Nat) (o co : Int) (h : GW wB w gw id nm mo bu st fi at' ti pa tr li a n c L q m d G na nn nc xs) (hst : st = 3) (hk : kd ≠ 5) : Calls Try.prog 70 #[.pointer (some ⟨gw, 0, none⟩), .agg (ntA kd nid nm2 si su at2 (.slice pa2 pn pc) (.slice ga gm gd) o co)] w fun e w' => e = .returned (.tuple #[]) ∧ GW wB w' gw id nm mo bu st fi at' ti pa tr li a n c L q m d G na nn nc xs ∧ KpT w w' := by
  have b0 := BxS.new w 27 #[.int .i64 kd, .int .i64 nid, .string nm2, .int .i64 si, .int .i64 su, .int .i64 at2, .slice pa2 pn pc, .slice ga gm gd, .int .i64 o, .int .i64 co]
  have g0 := World.grownBy_alloc w (.cells #[.int .i64 kd, .int .i64 nid, .string nm2, .int .i64 si, .int .i64 su, .int .i64 at2, .slice pa2 pn pc, .slice ga gm gd, .int .i64 o, .int .i64 co] 27) none
  unfold ntA
  generalize hw0 : w.alloc (.cells #[.int .i64 kd, .int .i64 nid, .string nm2, .int .i64 si, .int .i64 su, .int .i64 at2, .slice pa2 pn pc, .slice ga gm gd, .int .i64 o, .int .i64 co] 27) = w0 at b0 g0
  have l0 := h.bx.lt
  have h0 := h.keepN g0
  obtain ⟨e0, e1, e2, e3, e4, e5, e6, e7, e8, e9⟩ := b0.cell10
  have x5 : w0.cell? ⟨gw, 5, none⟩ = some (.int .i64 st) := h0.bx.cell 5 (by show 5 < 14; decide)
  subst hst
  go_enter Try.func70, Try.ntmps70
  go_wp2
  first | go_end0 | refine bodyPost_ret (results_none rfl _ _ _) rfl ?_
  exact ⟨rfl, h0, KpT.none g0⟩

set_option maxHeartbeats 8000000 in
theorem hear_done3 (wB w : World) (gw : Nat) (id : Int) (nm : ByteArray) (mo bu st : Int) (fi : Bool) (at' ti pa tr li : Int) (a : Option Addr) (n c : Nat) (L : List Nat) (q : Option Addr) (m d : Nat) (G : List (Int × Int)) (na : Option Addr) (nn nc : Nat) (xs : List Nx) (kd nid : Int) (nm2 : ByteArray) (si su at2 : Int) (pa2 : Option Addr) (pn pc : Nat) (ga : Option Addr) (gm gd : Nat) (o co : Int) (h : GW wB w gw id nm mo bu st fi at' ti pa tr li a n c L q m d G na nn nc xs) (hst : st = 3) (hk : kd = 5) (hn : nn ≤ 100000) : Calls Try.prog 70 #[.pointer (some ⟨gw, 0, none⟩), .agg (ntA kd nid nm2 si su at2 (.slice pa2 pn pc) (.slice ga gm gd) o co)] w fun e w' => e = .returned (.tuple #[]) ∧ ∃ na' nc', GW wB w' gw id nm mo bu 3 fi at' ti pa tr li a n c L q m d G na' (nn + 1) nc' (xs ++ [xSeen id]) ∧ KpT w w' := by
  have b0 := BxS.new w 27 #[.int .i64 kd, .int .i64 nid, .string nm2, .int .i64 si, .int .i64 su, .int .i64 at2, .slice pa2 pn pc, .slice ga gm gd, .int .i64 o, .int .i64 co]
  have g0 := World.grownBy_alloc w (.cells #[.int .i64 kd, .int .i64 nid, .string nm2, .int .i64 si, .int .i64 su, .int .i64 at2, .slice pa2 pn pc, .slice ga gm gd, .int .i64 o, .int .i64 co] 27) none
  unfold ntA
  generalize hw0 : w.alloc (.cells #[.int .i64 kd, .int .i64 nid, .string nm2, .int .i64 si, .int .i64 su, .int .i64 at2, .slice pa2 pn pc, .slice ga gm gd, .int .i64 o, .int .i64 co] 27) = w0 at b0 g0
  have l0 := h.bx.lt
  have h0 := h.keepN g0
  obtain ⟨e0, e1, e2, e3, e4, e5, e6, e7, e8, e9⟩ := b0.cell10
  have x5 : w0.cell? ⟨gw, 5, none⟩ = some (.int .i64 st) := h0.bx.cell 5 (by show 5 < 14; decide)
  subst hst hk
  have s0 : True := trivial
  go_enter Try.func70, Try.ntmps70
  go_wp2_with (first
    | (go_at_call 97; have _t := s0; clear s0; refine (send_any wB w0 gw id nm mo bu 3 fi at' ti pa tr li a n c L q m d G na nn nc xs h0 (xSeen 0) (Ans.nil _ _) (OwGi.nil _ _) hn (fun z e => by rcases e with e | e <;> cases e)).mono ?_; rintro e w1 ⟨rfl, ⟨na1, nc1, h1⟩, hfr⟩; have k1 : KpT w0 w1 := (fun g9 cs9 hb9 => hfr g9 _ cs9 hb9 (fun e => by subst e; exact BxS.apart hb9 h0.bx (by decide) rfl) (fun e => own_ty h0.N.own hb9 (by decide) e)); have b1 := hfr _ _ _ b0 (by omega) (fun e => by have := h.N.lt (.inl e); omega); have z9 : w1.cell? ⟨w.heap.size, 9, none⟩ = some (.int .i64 co) := b1.cell 9 (by show 9 < 10; decide); have s1 : True := trivial)
    | (go_at_call 98; have _t := s1; clear s1; refine (end_over wB w1 gw id nm mo bu 3 fi at' ti pa tr li a n c L q m d G na1 (nn + 1) nc1 _ h1 rfl co).mono ?_; rintro e wx ⟨rfl, hwx⟩; have hwx := hwx.symm; subst hwx))
  first | go_end0 | refine bodyPost_ret (results_none rfl _ _ _) rfl ?_
  first | exact ⟨rfl, na1, nc1, h1, (KpT.none g0).trans k1⟩ | exact ⟨rfl, ⟨na1, nc1, h1⟩, (KpT.none g0).trans k1⟩

set_option maxHeartbeats 8000000 in
theorem hear_done (wB w : World) (gw : Nat) (id : Int) (nm : ByteArray) (mo bu st : Int) (fi : Bool) (at' ti pa tr li : Int) (a : Option Addr) (n c : Nat) (L : List Nat) (q : Option Addr) (m d : Nat) (G : List (Int × Int)) (na : Option Addr) (nn nc : Nat) (xs : List Nx) (kd nid : Int) (nm2 : ByteArray) (si su at2 : Int) (pa2 : Option Addr) (pn pc : Nat) (ga : Option Addr) (gm gd : Nat) (o co : Int) (h : GW wB w gw id nm mo bu st fi at' ti pa tr li a n c L q m d G na nn nc xs) (hs3 : st ≠ 3) (hs4 : st ≠ 4) (hk : kd = 5) (hn : nn ≤ 100000) : Calls Try.prog 70 #[.pointer (some ⟨gw, 0, none⟩), .agg (ntA kd nid nm2 si su at2 (.slice pa2 pn pc) (.slice ga gm gd) o co)] w fun e w' => e = .returned (.tuple #[]) ∧ ∃ na' nc', GW wB w' gw id nm mo bu (if co = 0 then 3 else 4) false n ti pa tr li a n c L none 0 0 [] na' (nn + 1) nc' (xs ++ [xSeen id]) ∧ KpT w w' := by
  have b0 := BxS.new w 27 #[.int .i64 kd, .int .i64 nid, .string nm2, .int .i64 si, .int .i64 su, .int .i64 at2, .slice pa2 pn pc, .slice ga gm gd, .int .i64 o, .int .i64 co]
  have g0 := World.grownBy_alloc w (.cells #[.int .i64 kd, .int .i64 nid, .string nm2, .int .i64 si, .int .i64 su, .int .i64 at2, .slice pa2 pn pc, .slice ga gm gd, .int .i64 o, .int .i64 co] 27) none
  unfold ntA
  generalize hw0 : w.alloc (.cells #[.int .i64 kd, .int .i64 nid, .string nm2, .int .i64 si, .int .i64 su, .int .i64 at2, .slice pa2 pn pc, .slice ga gm gd, .int .i64 o, .int .i64 co] 27) = w0 at b0 g0
  have l0 := h.bx.lt
  have h0 := h.keepN g0
  obtain ⟨e0, e1, e2, e3, e4, e5, e6, e7, e8, e9⟩ := b0.cell10
  have x5 : w0.cell? ⟨gw, 5, none⟩ = some (.int .i64 st) := h0.bx.cell 5 (by show 5 < 14; decide)
  subst hk
  obtain ⟨S2, hS2⟩ : ∃ S2, (if co = 0 then (3 : Int) else 4) = S2 := ⟨_, rfl⟩
  rw [hS2]
  have HS2 : Hid _ := hS2
  clear hS2
  have s0 : True := trivial
  go_enter Try.func70, Try.ntmps70
  go_wp2_with (first
    | (go_at_call 97; have _t := s0; clear s0; refine (send_any wB w0 gw id nm mo bu st fi at' ti pa tr li a n c L q m d G na nn nc xs h0 (xSeen 0) (Ans.nil _ _) (OwGi.nil _ _) hn (fun z e => by rcases e with e | e <;> cases e)).mono ?_; rintro e w1 ⟨rfl, ⟨na1, nc1, h1⟩, hfr⟩; have k1 : KpT w0 w1 := (fun g9 cs9 hb9 => hfr g9 _ cs9 hb9 (fun e => by subst e; exact BxS.apart hb9 h0.bx (by decide) rfl) (fun e => own_ty h0.N.own hb9 (by decide) e)); have b1 := hfr _ _ _ b0 (by omega) (fun e => by have := h.N.lt (.inl e); omega); have z9 : w1.cell? ⟨w.heap.size, 9, none⟩ = some (.int .i64 co) := b1.cell 9 (by show 9 < 10; decide); have s1 : True := trivial)
    | (go_at_call 98; have _t := s1; clear s1; refine (end_any wB w1 gw id nm mo bu st fi at' ti pa tr li a n c L q m d G na1 (nn + 1) nc1 _ h1 hs3 co).mono ?_; rintro e w2 ⟨rfl, h2, k2⟩; rw [HS2.out] at h2))
  first | go_end0 | refine bodyPost_ret (results_none rfl _ _ _) rfl ?_
  first | exact ⟨rfl, na1, nc1, h2, ((KpT.none g0).trans k1).trans k2⟩ | exact ⟨rfl, ⟨na1, nc1, h2⟩, ((KpT.none g0).trans k1).trans k2⟩

set_option maxHeartbeats 8000000 in
theorem hear_gaps (wB w : World) (gw : Nat) (id : Int) (nm : ByteArray) (mo bu st : Int) (fi : Bool) (at' ti pa tr li : Int) (a : Option Addr) (n c : Nat) (L : List Nat) (q : Option Addr) (m d : Nat) (G : List (Int × Int)) (na : Option Addr) (nn nc : Nat) (xs : List Nx) (kd nid : Int) (nm2 : ByteArray) (si su at2 : Int) (pa2 : Option Addr) (pn pc : Nat) (ga : Option Addr) (gm gd : Nat) (o co : Int) (h : GW wB w gw id nm mo bu st fi at' ti pa tr li a n c L q m d G na nn nc xs) (hs3 : st ≠ 3) (hs4 : st ≠ 4) (hk : kd ≠ 5) (hm : m ≤ 1000) (F : Nat → Int × Int) (hF : RdG wB ga gm gd F) : Calls Try.prog 70 #[.pointer (some ⟨gw, 0, none⟩), .agg (ntA kd nid nm2 si su at2 (.slice pa2 pn pc) (.slice ga gm gd) o co)] w fun e w' => e = .returned (.tuple #[]) ∧ ∃ q' m' d', GW wB w' gw id nm mo bu (if o = 3 ∧ st = 1 then 2 else st) fi at' 0 pa 0 li a n c L q' m' d' (agN n G F gm) na nn nc xs ∧ KpT w w' := by
  have b0 := BxS.new w 27 #[.int .i64 kd, .int .i64 nid, .string nm2, .int .i64 si, .int .i64 su, .int .i64 at2, .slice pa2 pn pc, .slice ga gm gd, .int .i64 o, .int .i64 co]
  have g0 := World.grownBy_alloc w (.cells #[.int .i64 kd, .int .i64 nid, .string nm2, .int .i64 si, .int .i64 su, .int .i64 at2, .slice pa2 pn pc, .slice ga gm gd, .int .i64 o, .int .i64 co] 27) none
  unfold ntA
  generalize hw0 : w.alloc (.cells #[.int .i64 kd, .int .i64 nid, .string nm2, .int .i64 si, .int .i64 su, .int .i64 at2, .slice pa2 pn pc, .slice ga gm gd, .int .i64 o, .int .i64 co] 27) = w0 at b0 g0
  have l0 := h.bx.lt
  have h0 := h.keepN g0
  obtain ⟨e0, e1, e2, e3, e4, e5, e6, e7, e8, e9⟩ := b0.cell10
  have x5 : w0.cell? ⟨gw, 5, none⟩ = some (.int .i64 st) := h0.bx.cell 5 (by show 5 < 14; decide)
  have bw := h0.bx
  by_cases ho : o = 3
  · by_cases hs1 : st = 1
    · rw [if_pos ⟨ho, hs1⟩]
      subst ho hs1
      have xw1 : w0.cell? ⟨gw, 9, none⟩ = some _ := bw.cell 9 (by show 9 < 14; decide)
      have fw1 := bw.free 9
      have b1 := bw.set 9 (.int .i64 0)
      have uw1 := grown_set w0 gw 9 (.int .i64 0)
      generalize hww1 : w0.setCell ⟨gw, 9, none⟩ (.int .i64 0) = w1 at b1 uw1
      have b1 : BxS w1 gw 100 #[.int .i64 id, .string nm, .slice a n c, .int .i64 mo, .int .i64 bu, .int .i64 1, .bool fi, .int .i64 at', .slice q m d, .int .i64 0, .int .i64 pa, .int .i64 tr, .int .i64 li, .slice na nn nc] := b1
      have xw2 : w1.cell? ⟨gw, 11, none⟩ = some _ := b1.cell 11 (by show 11 < 14; decide)
      have fw2 := b1.free 11
      have b2 := b1.set 11 (.int .i64 0)
      have uw2 := grown_set w1 gw 11 (.int .i64 0)
      generalize hww2 : w1.setCell ⟨gw, 11, none⟩ (.int .i64 0) = w2 at b2 uw2
      have b2 : BxS w2 gw 100 #[.int .i64 id, .string nm, .slice a n c, .int .i64 mo, .int .i64 bu, .int .i64 1, .bool fi, .int .i64 at', .slice q m d, .int .i64 0, .int .i64 pa, .int .i64 0, .int .i64 li, .slice na nn nc] := b2
      have xw3 : w2.cell? ⟨gw, 5, none⟩ = some _ := b2.cell 5 (by show 5 < 14; decide)
      have fw3 := b2.free 5
      have b3 := b2.set 5 (.int .i64 2)
      have uw3 := grown_set w2 gw 5 (.int .i64 2)
      generalize hww3 : w2.setCell ⟨gw, 5, none⟩ (.int .i64 2) = w3 at b3 uw3
      have b3 : BxS w3 gw 100 #[.int .i64 id, .string nm, .slice a n c, .int .i64 mo, .int .i64 bu, .int .i64 2, .bool fi, .int .i64 at', .slice q m d, .int .i64 0, .int .i64 pa, .int .i64 0, .int .i64 li, .slice na nn nc] := b3
      have hU := grown_trans (grown_trans uw1 uw2) uw3
      have h3 := h0.set hU b3
      have b07 := b0.keep hU (fun e => by have e := Option.some.inj e; omega)
      have b08 := b0.keep (grown_trans uw1 uw2) (fun e => by have e := Option.some.inj e; omega)
      have y7 : w3.cell? ⟨w.heap.size, 7, none⟩ = some (.slice ga gm gd) := b07.cell 7 (by show 7 < 10; decide)
      have y8 : w2.cell? ⟨w.heap.size, 8, none⟩ = some (.int .i64 3) := b08.cell 8 (by show 8 < 10; decide)
      have y5 : w2.cell? ⟨gw, 5, none⟩ = some (.int .i64 1) := b2.cell 5 (by show 5 < 14; decide)
      have s0 : True := trivial
      go_enter Try.func70, Try.ntmps70
      go_wp2_with (go_at_call 99; have _t := s0; clear s0; refine (giveAgain_any wB w3 gw id nm mo bu 2 fi at' 0 pa 0 li a n c L q m d G na nn nc xs h3 hm ga gm gd F hF).mono ?_; rintro e w9 ⟨rfl, q9, m9, d9, h9, k9⟩)
      first | go_end0 | refine bodyPost_ret (results_none rfl _ _ _) rfl ?_
      first | exact ⟨rfl, q9, m9, d9, h9, ((KpT.none g0).trans (KpT.bx h0.bx (by decide) hU)).trans k9⟩ | exact ⟨rfl, ⟨q9, m9, d9, h9⟩, ((KpT.none g0).trans (KpT.bx h0.bx (by decide) hU)).trans k9⟩
    · rw [if_neg (fun h9 => hs1 h9.2)]
      subst ho
      have xw1 : w0.cell? ⟨gw, 9, none⟩ = some _ := bw.cell 9 (by show 9 < 14; decide)
      have fw1 := bw.free 9
      have b1 := bw.set 9 (.int .i64 0)
      have uw1 := grown_set w0 gw 9 (.int .i64 0)
      generalize hww1 : w0.setCell ⟨gw, 9, none⟩ (.int .i64 0) = w1 at b1 uw1
      have b1 : BxS w1 gw 100 #[.int .i64 id, .string nm, .slice a n c, .int .i64 mo, .int .i64 bu, .int .i64 st, .bool fi, .int .i64 at', .slice q m d, .int .i64 0, .int .i64 pa, .int .i64 tr, .int .i64 li, .slice na nn nc] := b1
      have xw2 : w1.cell? ⟨gw, 11, none⟩ = some _ := b1.cell 11 (by show 11 < 14; decide)
      have fw2 := b1.free 11
      have b2 := b1.set 11 (.int .i64 0)
      have uw2 := grown_set w1 gw 11 (.int .i64 0)
      generalize hww2 : w1.setCell ⟨gw, 11, none⟩ (.int .i64 0) = w2 at b2 uw2
      have b2 : BxS w2 gw 100 #[.int .i64 id, .string nm, .slice a n c, .int .i64 mo, .int .i64 bu, .int .i64 st, .bool fi, .int .i64 at', .slice q m d, .int .i64 0, .int .i64 pa, .int .i64 0, .int .i64 li, .slice na nn nc] := b2
      have hU := grown_trans uw1 uw2
      have h3 := h0.set hU b2
      have b07 := b0.keep hU (fun e => by have e := Option.some.inj e; omega)
      have b08 := b0.keep (grown_trans uw1 uw2) (fun e => by have e := Option.some.inj e; omega)
      have y7 : w2.cell? ⟨w.heap.size, 7, none⟩ = some (.slice ga gm gd) := b07.cell 7 (by show 7 < 10; decide)
      have y8 : w2.cell? ⟨w.heap.size, 8, none⟩ = some (.int .i64 3) := b08.cell 8 (by show 8 < 10; decide)
      have y5 : w2.cell? ⟨gw, 5, none⟩ = some (.int .i64 st) := b2.cell 5 (by show 5 < 14; decide)
      have s0 : True := trivial
      go_enter Try.func70, Try.ntmps70
      go_wp2_with (go_at_call 99; have _t := s0; clear s0; refine (giveAgain_any wB w2 gw id nm mo bu st fi at' 0 pa 0 li a n c L q m d G na nn nc xs h3 hm ga gm gd F hF).mono ?_; rintro e w9 ⟨rfl, q9, m9, d9, h9, k9⟩)
      first | go_end0 | refine bodyPost_ret (results_none rfl _ _ _) rfl ?_
      first | exact ⟨rfl, q9, m9, d9, h9, ((KpT.none g0).trans (KpT.bx h0.bx (by decide) hU)).trans k9⟩ | exact ⟨rfl, ⟨q9, m9, d9, h9⟩, ((KpT.none g0).trans (KpT.bx h0.bx (by decide) hU)).trans k9⟩
  · rw [if_neg (fun h9 => ho h9.1)]
    have xw1 : w0.cell? ⟨gw, 9, none⟩ = some _ := bw.cell 9 (by show 9 < 14; decide)
    have fw1 := bw.free 9
    have b1 := bw.set 9 (.int .i64 0)
    have uw1 := grown_set w0 gw 9 (.int .i64 0)
    generalize hww1 : w0.setCell ⟨gw, 9, none⟩ (.int .i64 0) = w1 at b1 uw1
    have b1 : BxS w1 gw 100 #[.int .i64 id, .string nm, .slice a n c, .int .i64 mo, .int .i64 bu, .int .i64 st, .bool fi, .int .i64 at', .slice q m d, .int .i64 0, .int .i64 pa, .int .i64 tr, .int .i64 li, .slice na nn nc] := b1
    have xw2 : w1.cell? ⟨gw, 11, none⟩ = some _ := b1.cell 11 (by show 11 < 14; decide)
    have fw2 := b1.free 11
    have b2 := b1.set 11 (.int .i64 0)
    have uw2 := grown_set w1 gw 11 (.int .i64 0)
    generalize hww2 : w1.setCell ⟨gw, 11, none⟩ (.int .i64 0) = w2 at b2 uw2
    have b2 : BxS w2 gw 100 #[.int .i64 id, .string nm, .slice a n c, .int .i64 mo, .int .i64 bu, .int .i64 st, .bool fi, .int .i64 at', .slice q m d, .int .i64 0, .int .i64 pa, .int .i64 0, .int .i64 li, .slice na nn nc] := b2
    have hU := grown_trans uw1 uw2
    have h3 := h0.set hU b2
    have b07 := b0.keep hU (fun e => by have e := Option.some.inj e; omega)
    have b08 := b0.keep (grown_trans uw1 uw2) (fun e => by have e := Option.some.inj e; omega)
    have y7 : w2.cell? ⟨w.heap.size, 7, none⟩ = some (.slice ga gm gd) := b07.cell 7 (by show 7 < 10; decide)
    have y8 : w2.cell? ⟨w.heap.size, 8, none⟩ = some (.int .i64 o) := b08.cell 8 (by show 8 < 10; decide)
    have y5 : w2.cell? ⟨gw, 5, none⟩ = some (.int .i64 st) := b2.cell 5 (by show 5 < 14; decide)
    have s0 : True := trivial
    go_enter Try.func70, Try.ntmps70
    go_wp2_with (go_at_call 99; have _t := s0; clear s0; refine (giveAgain_any wB w2 gw id nm mo bu st fi at' 0 pa 0 li a n c L q m d G na nn nc xs h3 hm ga gm gd F hF).mono ?_; rintro e w9 ⟨rfl, q9, m9, d9, h9, k9⟩)
    first | go_end0 | refine bodyPost_ret (results_none rfl _ _ _) rfl ?_
    first | exact ⟨rfl, q9, m9, d9, h9, ((KpT.none g0).trans (KpT.bx h0.bx (by decide) hU)).trans k9⟩ | exact ⟨rfl, ⟨q9, m9, d9, h9⟩, ((KpT.none g0).trans (KpT.bx h0.bx (by decide) hU)).trans k9⟩
end

section
/-- a giver as data -/
structure Gv where
  id : Int
  nm : ByteArray
  mo : Int
  bu : Int
  st : Int
  fi : Bool
  at' : Int
  ti : Int
  pa : Int
  tr : Int
  li : Int
  L : List Nat
  G : List (Int × Int)
/-- an answer of a giver in data form -/
def RV (w : World) (R : Gv × List Nx × Nat) (e : Ending) (w' : World) : Prop := RpA w R.1.id R.1.nm R.1.mo R.1.bu R.1.st R.1.fi R.1.at' R.1.ti R.1.pa R.1.tr R.1.li R.1.L R.1.G R.2.1 R.2.2 e w'
def zGv : Gv := ⟨0, ⟨#[]⟩, 0, 0, 0, false, 0, 0, 0, 0, 0, [], []⟩
/-- behind the tests of what comes -/
def rpX (V : Gv) (kd o co : Int) (F2 : Nat → Int × Int) (gm : Nat) : Gv × List Nx × Nat :=
  if kd ≠ 4 ∧ kd ≠ 5 ∧ kd ≠ 6 then (V, [], 6)
  else if V.st = 4 then (V, [], 0)
  else if kd = 5 then (if V.st = 3 then (V, [xSeen V.id], 0) else ({ V with st := if co = 0 then 3 else 4, fi := false, at' := (V.L.length : Int), G := [] }, [xSeen V.id], 0))
  else if V.st = 3 then (V, [], 0)
  else ({ V with st := if o = 3 ∧ V.st = 1 then 2 else V.st, ti := 0, tr := 0, G := agN V.L.length V.G F2 gm }, [], 0)
/-- what Reply answers -/
def rpV (gB may : Bool) (V : Gv) (kd nid o co : Int) (F2 : Nat → Int × Int) (gm : Nat) : Gv × List Nx × Nat :=
  if gB = false then (zGv, [], 11) else if may = false then (V, [], 8) else if nid ≠ V.id then (V, [], 10) else rpX V kd o co F2 gm
theorem gvB_parts {id : Int} {nm n : Nat} {mo bu st : Int} {fi : Bool} {at' : Int} {m : Nat} {al : Bool} {ti pa tr li : Int} (h : gvB id nm n mo bu st fi at' m al ti pa tr li = true) : (0 ≤ st ∧ st ≤ 4) ∧ m ≤ 1000 ∧ al = true := by
  unfold gvB stB at h
  simp only [Bool.and_eq_true, decide_eq_true_eq] at h
  obtain ⟨_, h1, _, h2, h3, _⟩ := h
  refine ⟨?_, h2, h3⟩
  by_cases e : st = 0
  · omega
  · rw [if_neg e] at h1
    by_cases e2 : 1 ≤ st ∧ st ≤ 4
    · omega
    · rw [if_neg e2] at h1; cases h1
end

section
/-- an answer of a giver, what goes as data -/
def RT (w : World) (V : Gv) (T : List Nt) (E : Nat) (e : Ending) (w' : World) : Prop :=
  ∃ a c q d na nc xs, e = .returned (.tuple #[.agg (gvA V.id V.nm (.slice a V.L.length c) V.mo V.bu V.st V.fi V.at' (.slice q V.G.length d) V.ti V.pa V.tr V.li), .slice na T.length nc, .int .i64 (E : Nat)]) ∧ xs.map Nx.dt = T ∧ Ans w' w.heap.size a V.L.length c V.L ∧ OwGi w' w.heap.size q V.G.length d V.G ∧ OwN w' w.heap.size na T.length nc xs ∧ (∀ z, (Value.slice a V.L.length c).ownBlock = some z → ¬ Nbl na T.length nc xs z) ∧ (∀ z, (Value.slice q V.G.length d).ownBlock = some z → ¬ Nbl na T.length nc xs z) ∧ w.grownBy w' none
theorem RV.rt {w : World} {V : Gv} {xs : List Nx} {E : Nat} {e : Ending} {w' : World} (h : RV w (V, xs, E) e w') : RT w V (xs.map Nx.dt) E e w' := by
  obtain ⟨a, c, q, d, na, nc, h1, h2, h3, h4, h5, h6, h7⟩ := h
  have hl : (xs.map Nx.dt).length = xs.length := List.length_map ..
  refine ⟨a, c, q, d, na, nc, xs, ?_, rfl, h2, h3, ?_, ?_, ?_, h7⟩
  · rw [hl]; exact h1
  · rw [hl]; exact h4
  · rw [hl]; exact h5
  · rw [hl]; exact h6
theorem tab_giF (G : List (Int × Int)) : tabG (giF G) G.length = G := by
  unfold tabG giF
  refine List.ext_getElem (by simp) (fun i h1 h2 => ?_)
  simp [h2]
end
end Go.Proofs.Ytnimehkfnpepfaa
