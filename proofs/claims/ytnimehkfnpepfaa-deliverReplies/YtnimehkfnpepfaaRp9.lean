import Derived.Test.YtnimehkfnpepfaaRp8
import Derived.Test.YtnimehkfnpepfaaRp2
import Derived.Test.YtnimehkfnpepfaaRp6
import Derived.Test.YtnimehkfnpepfaaRp5
import Derived.Test.YtnimehkfnpepfaaRp3
namespace Go.Proofs.Ytnimehkfnpepfaa
open Go.RowKit
set_option maxRecDepth 100000
set_option linter.unusedVariables false
set_option linter.unusedSimpArgs false

section
def xSeen (id : Int) : Nx := ⟨6, id, ⟨#[]⟩, 0, 0, 0, [], [], 5, 0, none, 0, none, 0⟩

set_option maxHeartbeats 8000000 in
theorem hear_failed (wB w : World) (gw : Nat) (id : Int) (nm : ByteArray) (mo bu st : Int) (fi : Bool) (at' ti pa tr li : Int) (a : Option Addr) (n c : Nat) (L : List Nat) (q : Option Addr) (m d : Nat) (G : List (Int × Int)) (na : Option Addr) (nn nc : Nat) (xs : List Nx) (kd nid : Int) (nm2 : ByteArray) (si su at2 : Int) (pa2 : Option Addr) (pn pc : Nat) (ga : Option Addr) (gm gd : Nat) (o co : Int) (h : GW wB w gw id nm mo bu st fi at' ti pa tr li a n c L q m d G na nn nc xs) (hst : st = 4) : Calls Try.prog 70 #[.pointer (some ⟨gw, 0, none⟩), .agg (ntA kd nid nm2 si su at2 (.slice pa2 pn pc) (.slice ga gm gd) o co)] w fun e w' => e = .returned (.tuple #[]) ∧ GW wB w' gw id nm mo bu st fi at' ti pa tr li a n c L q m d G na nn nc xs ∧ KpT w w' := by
  have b0 := BxS.new w 27 #[.int .i64 kd, .int .i64 nid, .string nm2, .int .i64 si, .int .i64 su, .int .i64 at2, .slice pa2 pn pc, .slice ga gm gd, .int .i64 o, .int .i64 co]
  have g0 := World.grownBy_alloc w (.cells #[.int .i64 kd, .int .i64 nid, .string nm2, .int .i64 si, .int .i64 su, .int .i64 at2, .slice pa2 pn pc, .slice ga gm gd, .int .i64 o, .int .i64 co] 27) none
  unfold ntA
  generalize hw0 : w.alloc (.cells #[.int .i64 kd, .int .i64 nid, .string nm2, .int .i64 si, .int .i64 su, .int .i64 at2, .slice pa2 pn pc, .slice ga gm gd, .int .i64 o, .int .i64 co] 27) = w0 at b0 g0
  have l0 := h.bx.lt
  have h0 := h.keepN g0
  obtain ⟨e0, e1, e2, e3, e4, e5, e6, e7, e8, e9⟩ := b0.cell10
  have x5 : w0.cell? ⟨gw, 5, none⟩ = some (.int .i64 st) := h0.bx.cell 5 (by show 5 < 14; decide)
  subst hst
  go_enter Try.func70, Try.ntmps70
  go_wp2
  first | go_end0 | refine bodyPost_ret (results_none rfl _ _ _) rfl ?_
  exact ⟨rfl, h0, KpT.none g0⟩

set_option maxHeartbeats 8000000 in
theorem hear_over (wB w : World) (gw : Nat) (id : Int) (nm : ByteArray) (mo bu st : Int) (fi : Bool) (at' ti pa tr li : Int) (a : Option Addr) (n c : Nat) (L : List Nat) (q : Option Addr) (m d : Nat) (G : List (Int × Int)) (na : Option Addr) (nn nc : Nat) (xs : List Nx) (kd nid : Int) (nm2 : ByteArray) (si su at2 : Int) (pa2 : Option Addr) (pn pc : Nat) (ga : Option Addr) (gm gd : Nat) (o co : Int) (h : GW wB w gw id nm mo bu st fi at' ti pa tr li a n c L q m d G na nn nc xs) (hst : st = 3) (hk : kd ≠ 5) : Calls Try.prog 70 #[.pointer (some ⟨gw, 0, none⟩), .agg (ntA kd nid nm2 si su at2 (.slice pa2 pn pc) (.slice ga gm gd) o co)] w fun e w' => e = .returned (.tuple #[]) ∧ GW wB w' gw id nm mo bu st fi at' ti pa tr li a n c L q m d G na nn nc xs ∧ KpT w w' := by
  have b0 := BxS.new w 27 #[.int .i64 kd, .int .i64 nid, .string nm2, .int .i64 si, .int .i64 su, .int .i64 at2, .slice pa2 pn pc, .slice ga gm gd, .int .i64 o, .int .i64 co]
  have g0 := World.grownBy_alloc w (.cells #[.int .i64 kd, .int .i64 nid, .string nm2, .int .i64 si, .int .i64 su, .int .i64 at2, .slice pa2 pn pc, .slice ga gm gd, .int .i64 o, .int .i64 co] 27) none
  unfold ntA
  generalize hw0 : w.alloc (.cells #[.int .i64 kd, .int .i64 nid, .string nm2, .int .i64 si, .int .i64 su, .int .i64 at2, .slice pa2 pn pc, .slice ga gm gd, .int .i64 o, .int .i64 co] 27) = w0 at b0 g0
  have l0 := h.bx.lt
  have h0 := h.keepN g0
  obtain ⟨e0, e1, e2, e3, e4, e5, e6, e7, e8, e9⟩ := b0.cell10
  have x5 : w0.cell? ⟨gw, 5, none⟩ = some (.int .i64 st) := h0.bx.cell 5 (by show 5 < 14; decide)
  subst hst
  go_enter Try.func70, Try.ntmps70
  go_wp2
  first | go_end0 | refine bodyPost_ret (results_none rfl _ _ _) rfl ?_
  exact ⟨rfl, h0, KpT.none g0⟩

set_option maxHeartbeats 8000000 in
theorem hear_done3 (wB w : World) (gw : Nat) (id : Int) (nm : ByteArray) (mo bu st : Int) (fi : Bool) (at' ti pa tr li : Int) (a : Option Addr) (n c : Nat) (L : List Nat) (q : Option Addr) (m d : Nat) (G : List (Int × Int)) (na : Option Addr) (nn nc : Nat) (xs : List Nx) (kd nid : Int) (nm2 : ByteArray) (si su at2 : Int) (pa2 : Option Addr) (pn pc : Nat) (ga : Option Addr) (gm gd : Nat) (o co : Int) (h : GW wB w gw id nm mo bu st fi at' ti pa tr li a n c L q m d G na nn nc xs) (hst : st = 3) (hk : kd = 5) (hn : nn ≤ 100000) : Calls Try.prog 70 #[.pointer (some ⟨gw, 0, none⟩), .agg (ntA kd nid nm2 si su at2 (.slice pa2 pn pc) (.slice ga gm gd) o co)] w fun e w' => e = .returned (.tuple #[]) ∧ ∃ na' nc', GW wB w' gw id nm mo bu 3 fi at' ti pa tr li a n c L q m d G na' (nn + 1) nc' (xs ++ [xSeen id]) ∧ KpT w w' := by
  have b0 := BxS.new w 27 #[.int .i64 kd, .int .i64 nid, .string nm2, .int .i64 si, .int .i64 su, .int .i64 at2, .slice pa2 pn pc, .slice ga gm gd, .int .i64 o, .int .i64 co]
  have g0 := World.grownBy_alloc w (.cells #[.int .i64 kd, .int .i64 nid, .string nm2, .int .i64 si, .int .i64 su, .int .i64 at2, .slice pa2 pn pc, .slice ga gm gd, .int .i64 o, .int .i64 co] 27) none
  unfold ntA
  generalize hw0 : w.alloc (.cells #[.int .i64 kd, .int .i64 nid, .string nm2, .int .i64 si, .int .i64 su, .int .i64 at2, .slice pa2 pn pc, .slice ga gm gd, .int .i64 o, .int .i64 co] 27) = w0 at b0 g0
  have l0 := h.bx.lt
  have h0 := h.keepN g0
  obtain ⟨e0, e1, e2, e3, e4, e5, e6, e7, e8, e9⟩ := b0.cell10
  have x5 : w0.cell? ⟨gw, 5, none⟩ = some (.int .i64 st) := h0.bx.cell 5 (by show 5 < 14; decide)
  subst hst hk
  have s0 : True := trivial
  go_enter Try.func70, Try.ntmps70
  go_wp2_with (first
    | (go_at_call 97; have _t := s0; clear s0; refine (send_any wB w0 gw id nm mo bu 3 fi at' ti pa tr li a n c L q m d G na nn nc xs h0 (xSeen 0) (Ans.nil _ _) (OwGi.nil _ _) hn (fun z e => by rcases e with e | e <;> cases e)).mono ?_; rintro e w1 ⟨rfl, ⟨na1, nc1, h1⟩, hfr⟩; have k1 : KpT w0 w1 := (fun g9 cs9 hb9 => hfr g9 _ cs9 hb9 (fun e => by subst e; exact BxS.apart hb9 h0.bx (by decide) rfl) (fun e => own_ty h0.N.own hb9 (by decide) e)); have b1 := hfr _ _ _ b0 (by omega) (fun e => by have := h.N.lt (.inl e); omega); have z9 : w1.cell? ⟨w.heap.size, 9, none⟩ = some (.int .i64 co) := b1.cell 9 (by show 9 < 10; decide); have s1 : True := trivial)
    | (go_at_call 98; have _t := s1; clear s1; refine (end_over wB w1 gw id nm mo bu 3 fi at' ti pa tr li a n c L q m d G na1 (nn + 1) nc1 _ h1 rfl co).mono ?_; rintro e wx ⟨rfl, hwx⟩; have hwx := hwx.symm; subst hwx))
  first | go_end0 | refine bodyPost_ret (results_none rfl _ _ _) rfl ?_
  first | exact ⟨rfl, na1, nc1, h1, (KpT.none g0).trans k1⟩ | exact ⟨rfl, ⟨na1, nc1, h1⟩, (KpT.none g0).trans k1⟩

set_option maxHeartbeats 8000000 in
theorem hear_done (wB w : World) (gw : Nat) (id : Int) (nm : ByteArray) (mo bu st : Int) (fi : Bool) (at' ti pa tr li : Int) (a : Option Addr) (n c : Nat) (L : List Nat) (q : Option Addr) (m d : Nat) (G : List (Int × Int)) (na : Option Addr) (nn nc : Nat) (xs : List Nx) (kd nid : Int) (nm2 : ByteArray) (si su at2 : Int) (pa2 : Option Addr) (pn pc : Nat) (ga : Option Addr) (gm gd : Nat) (o co : Int) (h : GW wB w gw id nm mo bu st fi at' ti pa tr li a n c L q m d G na nn nc xs) (hs3 : st ≠ 3) (hs4 : st ≠ 4) (hk : kd = 5) (hn : nn ≤ 100000) : Calls Try.prog 70 #[.pointer (some ⟨gw, 0, none⟩), .agg (ntA kd nid nm2 si su at2 (.slice pa2 pn pc) (.slice ga gm gd) o co)] w fun e w' => e = .returned (.tuple #[]) ∧ ∃ na' nc', GW wB w' gw id nm mo bu (if co = 0 then 3 else 4) false n ti pa tr li a n c L none 0 0 [] na' (nn + 1) nc' (xs ++ [xSeen id]) ∧ KpT w w' := by
  have b0 := BxS.new w 27 #[.int .i64 kd, .int .i64 nid, .string nm2, .int .i64 si, .int .i64 su, .int .i64 at2, .slice pa2 pn pc, .slice ga gm gd, .int .i64 o, .int .i64 co]
  have g0 := World.grownBy_alloc w (.cells #[.int .i64 kd, .int .i64 nid, .string nm2, .int .i64 si, .int .i64 su, .int .i64 at2, .slice pa2 pn pc, .slice ga gm gd, .int .i64 o, .int .i64 co] 27) none
  unfold ntA
  generalize hw0 : w.alloc (.cells #[.int .i64 kd, .int .i64 nid, .string nm2, .int .i64 si, .int .i64 su, .int .i64 at2, .slice pa2 pn pc, .slice ga gm gd, .int .i64 o, .int .i64 co] 27) = w0 at b0 g0
  have l0 := h.bx.lt
  have h0 := h.keepN g0
  obtain ⟨e0, e1, e2, e3, e4, e5, e6, e7, e8, e9⟩ := b0.cell10
  have x5 : w0.cell? ⟨gw, 5, none⟩ = some (.int .i64 st) := h0.bx.cell 5 (by show 5 < 14; decide)
  subst hk
  obtain ⟨S2, hS2⟩ : ∃ S2, (if co = 0 then (3 : Int) else 4) = S2 := ⟨_, rfl⟩
  rw [hS2]
  have HS2 : Hid _ := hS2
  clear hS2
  have s0 : True := trivial
  go_enter Try.func70, Try.ntmps70
  go_wp2_with (first
    | (go_at_call 97; have _t := s0; clear s0; refine (send_any wB w0 gw id nm mo bu st fi at' ti pa tr li a n c L q m d G na nn nc xs h0 (xSeen 0) (Ans.nil _ _) (OwGi.nil _ _) hn (fun z e => by rcases e with e | e <;> cases e)).mono ?_; rintro e w1 ⟨rfl, ⟨na1, nc1, h1⟩, hfr⟩; have k1 : KpT w0 w1 := (fun g9 cs9 hb9 => hfr g9 _ cs9 hb9 (fun e => by subst e; exact BxS.apart hb9 h0.bx (by decide) rfl) (fun e => own_ty h0.N.own hb9 (by decide) e)); have b1 := hfr _ _ _ b0 (by omega) (fun e => by have := h.N.lt (.inl e); omega); have z9 : w1.cell? ⟨w.heap.size, 9, none⟩ = some (.int .i64 co) := b1.cell 9 (by show 9 < 10; decide); have s1 : True := trivial)
    | (go_at_call 98; have _t := s1; clear s1; refine (end_any wB w1 gw id nm mo bu st fi at' ti pa tr li a n c L q m d G na1 (nn + 1) nc1 _ h1 hs3 co).mono ?_; rintro e w2 ⟨rfl, h2, k2⟩; rw [HS2.out] at h2))
  first | go_end0 | refine bodyPost_ret (results_none rfl _ _ _) rfl ?_
  first | exact ⟨rfl, na1, nc1, h2, ((KpT.none g0).trans k1).trans k2⟩ | exact ⟨rfl, ⟨na1, nc1, h2⟩, ((KpT.none g0).trans k1).trans k2⟩

set_option maxHeartbeats 8000000 in
theorem hear_gaps (wB w : World) (gw : Nat) (id : Int) (nm : ByteArray) (mo bu st : Int) (fi : Bool) (at' ti pa tr li : Int) (a : Option Addr) (n c : Nat) (L : List Nat) (q : Option Addr) (m d : Nat) (G : List (Int × Int)) (na : Option Addr) (nn nc : Nat) (xs : List Nx) (kd nid : Int) (nm2 : ByteArray) (si su at2 : Int) (pa2 : Option Addr) (pn pc : Nat) (ga : Option Addr) (gm gd : Nat) (o co : Int) (h : GW wB w gw id nm mo bu st fi at' ti pa tr li a n c L q m d G na nn nc xs) (hs3 : st ≠ 3) (hs4 : st ≠ 4) (hk : kd ≠ 5) (hm : m ≤ 1000) (F : Nat → Int × Int) (hF : RdG wB ga gm gd F) : Calls Try.prog 70 #[.pointer (some ⟨gw, 0, none⟩), .agg (ntA kd nid nm2 si su at2 (.slice pa2 pn pc) (.slice ga gm gd) o co)] w fun e w' => e = .returned (.tuple #[]) ∧ ∃ q' m' d', GW wB w' gw id nm mo bu (if o = 3 ∧ st = 1 then 2 else st) fi at' 0 pa 0 li a n c L q' m' d' (agN n G F gm) na nn nc xs ∧ KpT w w' := by
  have b0 := BxS.new w 27 #[.int .i64 kd, .int .i64 nid, .string nm2, .int .i64 si, .int .i64 su, .int .i64 at2, .slice pa2 pn pc, .slice ga gm gd, .int .i64 o, .int .i64 co]
  have g0 := World.grownBy_alloc w (.cells #[.int .i64 kd, .int .i64 nid, .string nm2, .int .i64 si, .int .i64 su, .int .i64 at2, .slice pa2 pn pc, .slice ga gm gd, .int .i64 o, .int .i64 co] 27) none
  unfold ntA
  generalize hw0 : w.alloc (.cells #[.int .i64 kd, .int .i64 nid, .string nm2, .int .i64 si, .int .i64 su, .int .i64 at2, .slice pa2 pn pc, .slice ga gm gd, .int .i64 o, .int .i64 co] 27) = w0 at b0 g0
  have l0 := h.bx.lt
  have h0 := h.keepN g0
  obtain ⟨e0, e1, e2, e3, e4, e5, e6, e7, e8, e9⟩ := b0.cell10
  have x5 : w0.cell? ⟨gw, 5, none⟩ = some (.int .i64 st) := h0.bx.cell 5 (by show 5 < 14; decide)
  have bw := h0.bx
  by_cases ho : o = 3
  · by_cases hs1 : st = 1
    · rw [if_pos ⟨ho, hs1⟩]
      subst ho hs1
      have xw1 : w0.cell? ⟨gw, 9, none⟩ = some _ := bw.cell 9 (by show 9 < 14; decide)
      have fw1 := bw.free 9
      have b1 := bw.set 9 (.int .i64 0)
      have uw1 := grown_set w0 gw 9 (.int .i64 0)
      generalize hww1 : w0.setCell ⟨gw, 9, none⟩ (.int .i64 0) = w1 at b1 uw1
      have b1 : BxS w1 gw 100 #[.int .i64 id, .string nm, .slice a n c, .int .i64 mo, .int .i64 bu, .int .i64 1, .bool fi, .int .i64 at', .slice q m d, .int .i64 0, .int .i64 pa, .int .i64 tr, .int .i64 li, .slice na nn nc] := b1
      have xw2 : w1.cell? ⟨gw, 11, none⟩ = some _ := b1.cell 11 (by show 11 < 14; decide)
      have fw2 := b1.free 11
      have b2 := b1.set 11 (.int .i64 0)
      have uw2 := grown_set w1 gw 11 (.int .i64 0)
      generalize hww2 : w1.setCell ⟨gw, 11, none⟩ (.int .i64 0) = w2 at b2 uw2
      have b2 : BxS w2 gw 100 #[.int .i64 id, .string nm, .slice a n c, .int .i64 mo, .int .i64 bu, .int .i64 1, .bool fi, .int .i64 at', .slice q m d, .int .i64 0, .int .i64 pa, .int .i64 0, .int .i64 li, .slice na nn nc] := b2
      have xw3 : w2.cell? ⟨gw, 5, none⟩ = some _ := b2.cell 5 (by show 5 < 14; decide)
      have fw3 := b2.free 5
      have b3 := b2.set 5 (.int .i64 2)
      have uw3 := grown_set w2 gw 5 (.int .i64 2)
      generalize hww3 : w2.setCell ⟨gw, 5, none⟩ (.int .i64 2) = w3 at b3 uw3
      have b3 : BxS w3 gw 100 #[.int .i64 id, .string nm, .slice a n c, .int .i64 mo, .int .i64 bu, .int .i64 2, .bool fi, .int .i64 at', .slice q m d, .int .i64 0, .int .i64 pa, .int .i64 0, .int .i64 li, .slice na nn nc] := b3
      have hU := grown_trans (grown_trans uw1 uw2) uw3
      have h3 := h0.set hU b3
      have b07 := b0.keep hU (fun e => by have e := Option.some.inj e; omega)
      have b08 := b0.keep (grown_trans uw1 uw2) (fun e => by have e := Option.some.inj e; omega)
      have y7 : w3.cell? ⟨w.heap.size, 7, none⟩ = some (.slice ga gm gd) := b07.cell 7 (by show 7 < 10; decide)
      have y8 : w2.cell? ⟨w.heap.size, 8, none⟩ = some (.int .i64 3) := b08.cell 8 (by show 8 < 10; decide)
      have y5 : w2.cell? ⟨gw, 5, none⟩ = some (.int .i64 1) := b2.cell 5 (by show 5 < 14; decide)
      have s0 : True := trivial
      go_enter Try.func70, Try.ntmps70
      go_wp2_with (go_at_call 99; have _t := s0; clear s0; refine (giveAgain_any wB w3 gw id nm mo bu 2 fi at' 0 pa 0 li a n c L q m d G na nn nc xs h3 hm ga gm gd F hF).mono ?_; rintro e w9 ⟨rfl, q9, m9, d9, h9, k9⟩)
      first | go_end0 | refine bodyPost_ret (results_none rfl _ _ _) rfl ?_
      first | exact ⟨rfl, q9, m9, d9, h9, ((KpT.none g0).trans (KpT.bx h0.bx (by decide) hU)).trans k9⟩ | exact ⟨rfl, ⟨q9, m9, d9, h9⟩, ((KpT.none g0).trans (KpT.bx h0.bx (by decide) hU)).trans k9⟩
    · rw [if_neg (fun h9 => hs1 h9.2)]
      subst ho
      have xw1 : w0.cell? ⟨gw, 9, none⟩ = some _ := bw.cell 9 (by show 9 < 14; decide)
      have fw1 := bw.free 9
      have b1 := bw.set 9 (.int .i64 0)
      have uw1 := grown_set w0 gw 9 (.int .i64 0)
      generalize hww1 : w0.setCell ⟨gw, 9, none⟩ (.int .i64 0) = w1 at b1 uw1
      have b1 : BxS w1 gw 100 #[.int .i64 id, .string nm, .slice a n c, .int .i64 mo, .int .i64 bu, .int .i64 st, .bool fi, .int .i64 at', .slice q m d, .int .i64 0, .int .i64 pa, .int .i64 tr, .int .i64 li, .slice na nn nc] := b1
      have xw2 : w1.cell? ⟨gw, 11, none⟩ = some _ := b1.cell 11 (by show 11 < 14; decide)
      have fw2 := b1.free 11
      have b2 := b1.set 11 (.int .i64 0)
      have uw2 := grown_set w1 gw 11 (.int .i64 0)
      generalize hww2 : w1.setCell ⟨gw, 11, none⟩ (.int .i64 0) = w2 at b2 uw2
      have b2 : BxS w2 gw 100 #[.int .i64 id, .string nm, .slice a n c, .int .i64 mo, .int .i64 bu, .int .i64 st, .bool fi, .int .i64 at', .slice q m d, .int .i64 0, .int .i64 pa, .int .i64 0, .int .i64 li, .slice na nn nc] := b2
      have hU := grown_trans uw1 uw2
      have h3 := h0.set hU b2
      have b07 := b0.keep hU (fun e => by have e := Option.some.inj e; omega)
      have b08 := b0.keep (grown_trans uw1 uw2) (fun e => by have e := Option.some.inj e; omega)
      have y7 : w2.cell? ⟨w.heap.size, 7, none⟩ = some (.slice ga gm gd) := b07.cell 7 (by show 7 < 10; decide)
      have y8 : w2.cell? ⟨w.heap.size, 8, none⟩ = some (.int .i64 3) := b08.cell 8 (by show 8 < 10; decide)
      have y5 : w2.cell? ⟨gw, 5, none⟩ = some (.int .i64 st) := b2.cell 5 (by show 5 < 14; decide)
      have s0 : True := trivial
      go_enter Try.func70, Try.ntmps70
      go_wp2_with (go_at_call 99; have _t := s0; clear s0; refine (giveAgain_any wB w2 gw id nm mo bu st fi at' 0 pa 0 li a n c L q m d G na nn nc xs h3 hm ga gm gd F hF).mono ?_; rintro e w9 ⟨rfl, q9, m9, d9, h9, k9⟩)
      first | go_end0 | refine bodyPost_ret (results_none rfl _ _ _) rfl ?_
      first | exact ⟨rfl, q9, m9, d9, h9, ((KpT.none g0).trans (KpT.bx h0.bx (by decide) hU)).trans k9⟩ | exact ⟨rfl, ⟨q9, m9, d9, h9⟩, ((KpT.none g0).trans (KpT.bx h0.bx (by decide) hU)).trans k9⟩
  · rw [if_neg (fun h9 => ho h9.1)]
    have xw1 : w0.cell? ⟨gw, 9, none⟩ = some _ := bw.cell 9 (by show 9 < 14; decide)
    have fw1 := bw.free 9
    have b1 := bw.set 9 (.int .i64 0)
    have uw1 := grown_set w0 gw 9 (.int .i64 0)
    generalize hww1 : w0.setCell ⟨gw, 9, none⟩ (.int .i64 0) = w1 at b1 uw1
    have b1 : BxS w1 gw 100 #[.int .i64 id, .string nm, .slice a n c, .int .i64 mo, .int .i64 bu, .int .i64 st, .bool fi, .int .i64 at', .slice q m d, .int .i64 0, .int .i64 pa, .int .i64 tr, .int .i64 li, .slice na nn nc] := b1
    have xw2 : w1.cell? ⟨gw, 11, none⟩ = some _ := b1.cell 11 (by show 11 < 14; decide)
    have fw2 := b1.free 11
    have b2 := b1.set 11 (.int .i64 0)
    have uw2 := grown_set w1 gw 11 (.int .i64 0)
    generalize hww2 : w1.setCell ⟨gw, 11, none⟩ (.int .i64 0) = w2 at b2 uw2
    have b2 : BxS w2 gw 100 #[.int .i64 id, .string nm, .slice a n c, .int .i64 mo, .int .i64 bu, .int .i64 st, .bool fi, .int .i64 at', .slice q m d, .int .i64 0, .int .i64 pa, .int .i64 0, .int .i64 li, .slice na nn nc] := b2
    have hU := grown_trans uw1 uw2
    have h3 := h0.set hU b2
    have b07 := b0.keep hU (fun e => by have e := Option.some.inj e; omega)
    have b08 := b0.keep (grown_trans uw1 uw2) (fun e => by have e := Option.some.inj e; omega)
    have y7 : w2.cell? ⟨w.heap.size, 7, none⟩ = some (.slice ga gm gd) := b07.cell 7 (by show 7 < 10; decide)
    have y8 : w2.cell? ⟨w.heap.size, 8, none⟩ = some (.int .i64 o) := b08.cell 8 (by show 8 < 10; decide)
    have y5 : w2.cell? ⟨gw, 5, none⟩ = some (.int .i64 st) := b2.cell 5 (by show 5 < 14; decide)
    have s0 : True := trivial
    go_enter Try.func70, Try.ntmps70
    go_wp2_with (go_at_call 99; have _t := s0; clear s0; refine (giveAgain_any wB w2 gw id nm mo bu st fi at' 0 pa 0 li a n c L q m d G na nn nc xs h3 hm ga gm gd F hF).mono ?_; rintro e w9 ⟨rfl, q9, m9, d9, h9, k9⟩)
    first | go_end0 | refine bodyPost_ret (results_none rfl _ _ _) rfl ?_
    first | exact ⟨rfl, q9, m9, d9, h9, ((KpT.none g0).trans (KpT.bx h0.bx (by decide) hU)).trans k9⟩ | exact ⟨rfl, ⟨q9, m9, d9, h9⟩, ((KpT.none g0).trans (KpT.bx h0.bx (by decide) hU)).trans k9⟩
end

section
/-- kinds in a row, as they are read -/
def RdK (w : World) (b n : Nat) (K : List Int) : Prop := K.length = n ∧ n ≤ 100 ∧ ∀ i, i < n → w.cell? ⟨b, i, none⟩ = some (.int .i64 (K.getD i 0))
def hasK (K : List Int) (k : Int) : Nat → Bool
  | 0 => false
  | n + 1 => hasK K k n || decide (k = K.getD n 0)
set_option maxHeartbeats 4000000 in
theorem indexK_any (b n c : Nat) (K : List Int) (k : Int) (w : World) (h : RdK w b n K) (hc : n ≤ c) :
    Calls Try.prog 117 #[.slice (some ⟨b, 0, none⟩) n c, .int .i64 k] w fun e w' => (∃ r : Int, e = .returned (.int .i64 r) ∧ decide (0 ≤ r) = hasK K k n) ∧ w' = w := by
  obtain ⟨h1, h2, h3⟩ := h
  have H3 : Hid _ := h3
  clear h3
  go_enter Try.func117, Try.ntmps117
  go_wp2
  go_loopw [8] (fun iv wr => ∃ j : Nat, j ≤ n ∧ iv = .int .i64 j ∧ Hid (hasK K k j = false) ∧ Hid (wr = w)) (fun iv _ => n - (intOf iv).toNat)
  case atStart => exact ⟨0, Nat.zero_le _, rfl, rfl, rfl⟩
  case round =>
    obtain ⟨j, hj, rfl, HK, hwr⟩ := hrel
    have hwr := hwr.out
    subst hwr
    by_cases hlt : j < n
    · have lj : (j : Int) < (n : Int) := by omega
      have cj := H3.out j hlt
      have HS : Hid (hasK K k (j + 1) = (hasK K k j || decide (k = K.getD j 0))) := rfl
      have HUP : Hid (hasK K k (j + 1) = true → hasK K k n = true) := by
        show _ → _
        intro h9
        have : ∀ i, j + 1 ≤ i → hasK K k i = true := by
          intro i hi
          induction i with
          | zero => omega
          | succ i ih =>
            by_cases e : j = i
            · rw [← e]; exact h9
            · show (hasK K k i || _) = true
              rw [ih (by omega)]; rfl
        exact this n (by omega)
      generalize K.getD j 0 = x at *
      by_cases e : k = x
      · subst e
        go_wp2
        go_ret
        exact ⟨⟨(j : Int), rfl, by rw [HUP.out (by rw [HS.out]; simp)]; exact decide_eq_true (by omega)⟩, rfl⟩
      · go_wp2
        go_roundw
        case rel => exact ⟨j + 1, by omega, by go_num, by show _ = _; rw [HS.out, HK.out, decide_eq_false e]; rfl, (by first | exact rfl | exact trivial)⟩
        case measure => simp [intOf] <;> omega
    · obtain rfl : j = n := by omega
      have lj : ¬ (j : Int) < (j : Int) := by omega
      go_wp2
      go_ret
      exact ⟨⟨-1, rfl, by rw [HK.out]; rfl⟩, rfl⟩
set_option maxHeartbeats 4000000 in
theorem containsK_any (b n c : Nat) (K : List Int) (k : Int) (w : World) (h : RdK w b n K) (hc : n ≤ c) :
    Calls Try.prog 96 #[.slice (some ⟨b, 0, none⟩) n c, .int .i64 k] w fun e w' => e = .returned (.bool (hasK K k n)) ∧ w' = w := by
  have k1 := indexK_any b n c K k w h hc
  have s0 : True := trivial
  go_enter Try.func96, Try.ntmps96
  go_wp2_with (go_at_call 117; have _t := s0; clear s0; refine k1.mono ?_; rintro e wx ⟨⟨r, rfl, hr⟩, hwx⟩; have hwx := hwx.symm; subst hwx)
  go_ret
  rw [← hr]
  exact ⟨rfl, rfl⟩
def wnE (may : Bool) (nid id : Int) (has : Bool) : Nat := if may = false then 8 else if nid ≠ id then 10 else if has = false then 6 else 0
set_option maxHeartbeats 8000000 in
theorem wrongNote_any (kd nid : Int) (nm : ByteArray) (si su at' : Int) (a : Option Addr) (n cap : Nat) (q : Option Addr) (m cq : Nat) (o co : Int) (F : Nat → Int × Int) (id : Int) (b kn kc : Nat) (K : List Int) (w : World) (hG : RdG w q m cq F) (hK : RdK w b kn K) (hc : kn ≤ kc) :
    Calls Try.prog 69 #[.agg (ntA kd nid nm si su at' (.slice a n cap) (.slice q m cq) o co), .int .i64 id, .slice (some ⟨b, 0, none⟩) kn kc] w fun e w' => e = .returned (.int .i64 (wnE (ntB kd nid nm.size si su at' n m o co (alG F 65536 m)) nid id (hasK K kd kn) : Nat)) ∧ w.grownBy w' none := by
  have b0 := BxS.new w 27 #[.int .i64 kd, .int .i64 nid, .string nm, .int .i64 si, .int .i64 su, .int .i64 at', .slice a n cap, .slice q m cq, .int .i64 o, .int .i64 co]
  have g0 := World.grownBy_alloc w (.cells #[.int .i64 kd, .int .i64 nid, .string nm, .int .i64 si, .int .i64 su, .int .i64 at', .slice a n cap, .slice q m cq, .int .i64 o, .int .i64 co] 27) none
  have k0 := fun wz (hz : w.grownBy wz none) => noteMay_any kd nid nm si su at' a n cap q m cq o co F wz (hG.keep hz)
  have k1 := fun wz (hz : w.grownBy wz none) => containsK_any b kn kc K kd wz ⟨hK.1, hK.2.1, fun i hi => hz.cell (hK.2.2 i hi) (by simp)⟩ hc
  unfold ntA at k0 ⊢
  generalize hw0 : w.alloc (.cells #[.int .i64 kd, .int .i64 nid, .string nm, .int .i64 si, .int .i64 su, .int .i64 at', .slice a n cap, .slice q m cq, .int .i64 o, .int .i64 co] 27) = w0 at b0 g0
  obtain ⟨e0, e1, e2, e3, e4, e5, e6, e7, e8, e9⟩ := b0.cell10
  generalize ntB kd nid nm.size si su at' n m o co (alG F 65536 m) = B at k0 ⊢
  generalize hasK K kd kn = H at k1 ⊢
  have s0 : True := trivial
  unfold wnE
  cases B
  · rw [if_pos rfl]
    go_enter Try.func69, Try.ntmps69
    go_wp2_with (go_at_call 49; have _t := s0; clear s0; refine (k0 w0 g0).mono ?_; rintro e w1 ⟨rfl, g1⟩)
    go_ret
    exact ⟨rfl, grown_trans g0 g1⟩
  · rw [if_neg (by decide)]
    by_cases hid : nid = id
    · subst hid
      rw [if_neg (by simp)]
      cases H
      · rw [if_pos rfl]
        go_enter Try.func69, Try.ntmps69
        go_wp2_with (first
          | (go_at_call 49; have _t := s0; clear s0; refine (k0 w0 g0).mono ?_; rintro e w1 ⟨rfl, g1⟩; clear e0 e1 e2 e3 e4 e5 e6 e7 e8 e9; obtain ⟨e0, e1, e2, e3, e4, e5, e6, e7, e8, e9⟩ := (b0.keep g1 (by simp)).cell10; have s1 : True := trivial)
          | (go_at_call 96; have _t := s1; clear s1; refine (k1 w1 (grown_trans g0 g1)).mono ?_; rintro e wx ⟨rfl, hwx⟩; have hwx := hwx.symm; subst hwx))
        go_ret
        exact ⟨rfl, grown_trans g0 g1⟩
      · rw [if_neg (by decide)]
        go_enter Try.func69, Try.ntmps69
        go_wp2_with (first
          | (go_at_call 49; have _t := s0; clear s0; refine (k0 w0 g0).mono ?_; rintro e w1 ⟨rfl, g1⟩; clear e0 e1 e2 e3 e4 e5 e6 e7 e8 e9; obtain ⟨e0, e1, e2, e3, e4, e5, e6, e7, e8, e9⟩ := (b0.keep g1 (by simp)).cell10; have s1 : True := trivial)
          | (go_at_call 96; have _t := s1; clear s1; refine (k1 w1 (grown_trans g0 g1)).mono ?_; rintro e wx ⟨rfl, hwx⟩; have hwx := hwx.symm; subst hwx))
        go_ret
        exact ⟨rfl, grown_trans g0 g1⟩
    · rw [if_pos hid]
      go_enter Try.func69, Try.ntmps69
      go_wp2_with (go_at_call 49; have _t := s0; clear s0; refine (k0 w0 g0).mono ?_; rintro e w1 ⟨rfl, g1⟩; clear e0 e1 e2 e3 e4 e5 e6 e7 e8 e9; obtain ⟨e0, e1, e2, e3, e4, e5, e6, e7, e8, e9⟩ := (b0.keep g1 (by simp)).cell10)
      go_ret
      exact ⟨rfl, grown_trans g0 g1⟩
end

section
set_option maxHeartbeats 16000000 in
theorem sameGiver_any (id : Int) (nm : ByteArray) (mo bu st : Int) (fi : Bool) (at' ti pa tr li : Int) (a a' q q' : Option Addr) (n c c' m d d' : Nat) (L : List Nat) (F F' : Nat → Int × Int) (w : World) (hL : Rd w a n c L) (hL' : Rd w a' n c' L) (hF : RdG w q m d F) (hF' : RdG w q' m d' F') (he : ∀ i, i < m → F i = F' i) :
    Calls Try.prog 28 #[.agg (gvA id nm (.slice a n c) mo bu st fi at' (.slice q m d) ti pa tr li), .agg (gvA id nm (.slice a' n c') mo bu st fi at' (.slice q' m d') ti pa tr li)] w fun e w' => e = .returned (.bool true) ∧ w.grownBy w' none := by
  unfold gvA
  have b0 := BxS.new w 44 #[.int .i64 id, .string nm, .slice a n c, .int .i64 mo, .int .i64 bu, .int .i64 st, .bool fi, .int .i64 at', .slice q m d, .int .i64 ti, .int .i64 pa, .int .i64 tr, .int .i64 li]
  have g0 := World.grownBy_alloc w (.cells #[.int .i64 id, .string nm, .slice a n c, .int .i64 mo, .int .i64 bu, .int .i64 st, .bool fi, .int .i64 at', .slice q m d, .int .i64 ti, .int .i64 pa, .int .i64 tr, .int .i64 li] 44) none
  generalize hw0 : w.alloc (.cells #[.int .i64 id, .string nm, .slice a n c, .int .i64 mo, .int .i64 bu, .int .i64 st, .bool fi, .int .i64 at', .slice q m d, .int .i64 ti, .int .i64 pa, .int .i64 tr, .int .i64 li] 44) = w0 at b0 g0
  have hz0 : w0.heap.size = w.heap.size + 1 := by rw [← hw0]; simp
  have b1 := BxS.new w0 44 #[.int .i64 id, .string nm, .slice a' n c', .int .i64 mo, .int .i64 bu, .int .i64 st, .bool fi, .int .i64 at', .slice q' m d', .int .i64 ti, .int .i64 pa, .int .i64 tr, .int .i64 li]
  have g1 := World.grownBy_alloc w0 (.cells #[.int .i64 id, .string nm, .slice a' n c', .int .i64 mo, .int .i64 bu, .int .i64 st, .bool fi, .int .i64 at', .slice q' m d', .int .i64 ti, .int .i64 pa, .int .i64 tr, .int .i64 li] 44) none
  generalize hw1 : w0.alloc (.cells #[.int .i64 id, .string nm, .slice a' n c', .int .i64 mo, .int .i64 bu, .int .i64 st, .bool fi, .int .i64 at', .slice q' m d', .int .i64 ti, .int .i64 pa, .int .i64 tr, .int .i64 li] 44) = w1 at b1 g1
  rw [hz0] at b1
  have b01 := b0.keep g1 (by simp)
  have G1 := grown_trans g0 g1
  obtain ⟨c0, c1, c2, c3, c4, c5, c6, c7, c8, c9, c10, c11, c12⟩ := b01.cell13
  obtain ⟨d0, d1, d2, d3, d4, d5, d6, d7, d8, d9, d10, d11, d12⟩ := b1.cell13
  have hB := fun wz (hz : w1.grownBy wz none) => sameBytes_any a a' n n c c' L wz ((hL.keep G1).keep hz) ((hL'.keep G1).keep hz)
  have hG := fun wz (hz : w1.grownBy wz none) => sameGaps_any q q' m d d' F F' wz ((hF.keep G1).keep hz) ((hF'.keep G1).keep hz) he
  clear b0 hL hL' hF hF' he
  go_enter Try.func28, Try.ntmps28
  go_wp2_with (first
    | (go_at_call 51; refine (hB _ (by first | exact World.grownBy.refl _ _ | exact g2)).mono ?_; rintro e w5 ⟨rfl, hw⟩; have hw := hw.symm; subst hw)
    | (go_at_call 52; refine (hG _ (World.grownBy.refl _ _)).mono ?_; rintro e w2 ⟨rfl, g2⟩; clear c0 d0 c1 d1 c2 d2 c3 d3 c4 d4 c5 d5 c6 d6 c7 d7 c8 d8 c9 d9 c10 d10 c11 d11 c12 d12; obtain ⟨c0, c1, c2, c3, c4, c5, c6, c7, c8, c9, c10, c11, c12⟩ := (b01.keep g2 (by simp)).cell13; obtain ⟨d0, d1, d2, d3, d4, d5, d6, d7, d8, d9, d10, d11, d12⟩ := (b1.keep g2 (by simp)).cell13))
  go_ret
  exact ⟨rfl, grown_trans G1 g2⟩
end
end Go.Proofs.Ytnimehkfnpepfaa
