import Derived.Test.YtibomgbejpgmiaaVNow
import Derived.Test.YtibomgbejpgmiaaVNm
import Derived.Test.YtibomgbejpgmiaaVRc
namespace Go.Proofs.Ytibomgbejpgmiaa
open Go.RowKit
set_option maxRecDepth 100000
set_option linter.unusedVariables false
set_option linter.unusedSimpArgs false

/-- what the document's NoteMay is to answer -/
def RMayOk : Prop := ∀ (kd id : Int) (nm : ByteArray) (si su at' : Int) (a : Option Addr) (n c : Nat) (q : Option Addr) (m d : Nat) (o co : Int) (F : Nat → Int × Int) (w : World), RdG w q m d F → n ≤ 140737488351232 →
  Calls Try.prog 47 #[.agg (ntA kd id nm si su at' (.slice a n c) (.slice q m d) o co)] w fun e w' => e = .returned (.bool (ntB kd id nm.size si su at' n m o co (alG F 65536 m))) ∧ w.grownBy w' none
theorem rmay_ok : RMayOk := fun kd id nm si su at' a n c q m d o co F w hG hn => rnoteMay_any kd id nm si su at' a n c q m d o co F w hG (by omega)
theorem rbytes_no (HM : RMayOk) (kd id : Int) (nm : ByteArray) (si su at' o co : Int) (a q : Option Addr) (n c m d : Nat) (F : Nat → Int × Int) (w : World) (hF : RdG w q m d F) (hn : n ≤ 140737488351232) (hm : ntB kd id nm.size si su at' n m o co (alG F 65536 m) = false) :
    Calls Try.prog 12 #[.agg (ntA kd id nm si su at' (.slice a n c) (.slice q m d) o co)] w fun e w' => e = .returned (.tuple #[.slice none 0 0, .int .i64 8]) ∧ w.grownBy w' none := by
  have h := fun wz (hz : w.grownBy wz none) => HM kd id nm si su at' a n c q m d o co F wz (hF.keep hz) hn
  rw [hm] at h
  unfold ntA at h ⊢
  go_enter Try.func12, Try.ntmps12
  go_wp2_with (go_at_call 47; refine (h _ (World.grownBy_alloc _ _ _)).mono ?_; rintro e w1 ⟨rfl, g1⟩)
  go_ret2
  exact ⟨rfl, grown_trans (World.grownBy_alloc _ _ none) g1⟩
/-- what both answer: nothing and ErrForm, or the bytes -/
def EnA (b : Bool) (L : List Nat) (w w' : World) (e : Ending) : Prop := ∃ a' l' c', e = .returned (.tuple #[.slice a' l' c', .int .i64 (enE b : Nat)]) ∧ Ans w' w.heap.size a' l' c' L ∧ w.grownBy w' none
def enL (kd id : Int) (nm : ByteArray) (si su at' : Int) (D : List Nat) (F : Nat → Int × Int) (m : Nat) (o co : Int) (b : Bool) : List Nat := if b = true then ntL kd.toNat id.toNat nm si.toNat su.toNat at'.toNat D F m o.toNat co.toNat else []
theorem nt_nat {kd id : Int} {nm n m : Nat} {si su at' o co : Int} {g : Bool} (h : ntB kd id nm si su at' n m o co g = true) : kd = (kd.toNat : Int) ∧ id = (id.toNat : Int) ∧ si = (si.toNat : Int) ∧ su = (su.toNat : Int) ∧ at' = (at'.toNat : Int) ∧ o = (o.toNat : Int) ∧ co = (co.toNat : Int) := by
  unfold ntB ptB brB at h
  simp only [Bool.and_eq_true, decide_eq_true_eq] at h
  obtain ⟨⟨h1, h2⟩, h3⟩ := h
  have h1 := kwB_ok h1
  omega
theorem enL_len (kd id : Int) (nm : ByteArray) (si su at' : Int) (D : List Nat) (F : Nat → Int × Int) (n m : Nat) (o co : Int) (g : Bool) (hD : D.length = n) : (enL kd id nm si su at' D F m o co (ntB kd id nm.size si su at' n m o co g)).length ≤ 10000 := by
  unfold enL
  split
  case isFalse => simp
  rename_i hb
  have hp : nm.size ≤ 32 ∧ n ≤ 1024 ∧ m ≤ 20 := by
    unfold ntB ptB brB at hb
    simp only [Bool.and_eq_true, decide_eq_true_eq] at hb
    obtain ⟨⟨h1, h2⟩, h3⟩ := hb
    have h1 := kwB_ok h1
    omega
  unfold ntL ntT
  have h1 := strL_len nm
  have h2 := gpL_len F m
  split <;> (try split) <;> (try split) <;> (try split) <;> (try split) <;> simp only [List.length_append, beL_len] <;> omega
theorem Rd.far {w0 w w' : World} {a : Option Addr} {n cap : Nat} {L : List Nat} {r : Option Nat} (h0 : Rd w0 a n cap L) (h : Rd w a n cap L) (hg : w.grownBy w' r) (hr : ∀ x, r = some x → w0.heap.size ≤ x) : Rd w' a n cap L := by
  refine ⟨h.len, h.le, h.max, h.nil, h.byte, fun hn => ?_⟩
  obtain ⟨b, off, e, hb, hc⟩ := h.at' hn
  obtain ⟨b', off', e', hb', _⟩ := h0.at' hn
  rw [e] at e'
  cases e'
  refine ⟨b, off, e, Nat.lt_of_lt_of_le hb hg.size, fun i hi => ?_⟩
  rw [← hc i hi]
  exact World.cell?_of_block (hg.block b hb (fun e => by have := hr b e.symm; omega))
theorem RdG.far {w0 w w' : World} {a : Option Addr} {n cap : Nat} {F : Nat → Int × Int} {r : Option Nat} (h0 : RdG w0 a n cap F) (h : RdG w a n cap F) (hg : w.grownBy w' r) (hr : ∀ x, r = some x → w0.heap.size ≤ x) : RdG w' a n cap F := by
  refine ⟨h.le, h.max, h.nil, fun hn => ?_⟩
  obtain ⟨b, off, e, hb, hc⟩ := h.at' hn
  obtain ⟨b', off', e', hb', _⟩ := h0.at' hn
  rw [e] at e'
  cases e'
  have hk : ∀ j, w'.cell? ⟨b, j, none⟩ = w.cell? ⟨b, j, none⟩ := fun j => World.cell?_of_block (hg.block b hb (fun e => by have := hr b e.symm; omega))
  refine ⟨b, off, e, Nat.lt_of_lt_of_le hb hg.size, fun i hi => ?_⟩
  rw [hk, hk]
  exact hc i hi
theorem ans_sep1 {w w' : World} {lo : Nat} {a a' : Option Addr} {n c n' c' : Nat} {L L' : List Nat} (h : Ans w lo a n c L) (h' : Ans w' w.heap.size a' n' c' L') (b off : Nat) (e : a' = some ⟨b, off, none⟩) : some b ≠ (Value.slice a n c).ownBlock := by
  subst e
  exact ans_below h (h'.new b rfl)
theorem ans_sep2 {w w' : World} {lo : Nat} {a a' : Option Addr} {n c n' c' : Nat} {L L' : List Nat} (h : Ans w lo a n c L) (h' : Ans w' w.heap.size a' n' c' L') (b off : Nat) (e : a = some ⟨b, off, none⟩) : some b ≠ (Value.slice a' n' c').ownBlock := by
  rcases h.cases with ⟨h1, _⟩ | ⟨b2, h1, _, hb2⟩
  · rw [h1] at e; cases e
  · rw [h1] at e
    cases e
    exact ans_lo h' hb2
theorem encode_all (kd id : Int) (nm : ByteArray) (si su at' o co : Int) (a q : Option Addr) (n c m d : Nat) (L : List Nat) (F : Nat → Int × Int) (w : World) (hL : Rd w a n c L) (hF : RdG w q m d F) :
    Calls Try.prog 13 #[.agg (ntA kd id nm si su at' (.slice a n c) (.slice q m d) o co)] w fun e w' => EnA (ntB kd id nm.size si su at' n m o co (alG F 65536 m)) (enL kd id nm si su at' L F m o co (ntB kd id nm.size si su at' n m o co (alG F 65536 m))) w w' e := by
  cases hb : ntB kd id nm.size si su at' n m o co (alG F 65536 m) with
  | false =>
    refine (encode_no kd id nm si su at' o co a q n c m d F w hF hb).mono ?_
    rintro e w' ⟨rfl, g⟩
    exact ⟨none, 0, 0, rfl, Ans.nil _ _, g⟩
  | true =>
    obtain ⟨e1, e2, e3, e4, e5, e6, e7⟩ := nt_nat hb
    rw [e1, e2, e3, e4, e5, e6, e7] at hb ⊢
    refine (encode_ok kd.toNat id.toNat nm si.toNat su.toNat at'.toNat o.toNat co.toNat a q n c m d L F w hL hF hb).mono ?_
    rintro e w' ⟨a', l', c', rfl, hA, g⟩
    exact ⟨a', l', c', rfl, hA, g⟩
theorem rbytes_all (HM : RMayOk) (kd id : Int) (nm : ByteArray) (si su at' o co : Int) (a q : Option Addr) (n c m d : Nat) (L : List Nat) (F : Nat → Int × Int) (w : World) (hL : Rd w a n c L) (hF : RdG w q m d F) (hn : n ≤ 140737488351232) :
    Calls Try.prog 12 #[.agg (ntA kd id nm si su at' (.slice a n c) (.slice q m d) o co)] w fun e w' => EnA (ntB kd id nm.size si su at' n m o co (alG F 65536 m)) (enL kd id nm si su at' L F m o co (ntB kd id nm.size si su at' n m o co (alG F 65536 m))) w w' e := by
  cases hb : ntB kd id nm.size si su at' n m o co (alG F 65536 m) with
  | false =>
    refine (rbytes_no HM kd id nm si su at' o co a q n c m d F w hF hn hb).mono ?_
    rintro e w' ⟨rfl, g⟩
    exact ⟨none, 0, 0, rfl, Ans.nil _ _, g⟩
  | true =>
    have hM := fun wz (hz : w.grownBy wz none) => HM kd id nm si su at' a n c q m d o co F wz (hF.keep hz) hn
    rw [hb] at hM
    obtain ⟨e1, e2, e3, e4, e5, e6, e7⟩ := nt_nat hb
    rw [e1, e2, e3, e4, e5, e6, e7] at hb hM ⊢
    refine (rbytes_any kd.toNat id.toNat nm si.toNat su.toNat at'.toNat a n c q m d o.toNat co.toNat L F w hL hF hb hM).mono ?_
    rintro e w' ⟨a', l', c', rfl, hA, g⟩
    exact ⟨a', l', c', rfl, hA, g⟩
set_option maxHeartbeats 16000000 in
theorem encodes_walk (HM : RMayOk) (kd id : Int) (nm : ByteArray) (si su at' o co : Int) (a q : Option Addr) (n c m d : Nat) (L : List Nat) (F : Nat → Int × Int) (w : World) (hL : Rd w a n c L) (hF : RdG w q m d F) (hn : n ≤ 140737488351232) (hm : m ≤ 10000000000000) :
    Calls Try.prog 3 #[.agg (ntA kd id nm si su at' (.slice a n c) (.slice q m d) o co)] w fun e w' => e = .returned (.bool true) ∧ Below w.heap.size w w' := by
  have hby := hL.byte
  have hlen := hL.len
  have h0 := fun wz hz hz' => noteOwn_any kd id nm si su at' o co a q n c m d L F wz hz hz' hn hm
  have h1 := fun wz hz hz' => rbytes_all HM kd id nm si su at' o co a q n c m d L F wz hz hz' hn
  have h2 := fun (a q : Option Addr) (c d : Nat) wz hz hz' => encode_all kd id nm si su at' o co a q n c m d L F wz hz hz'
  have h3 := fun (a' q' : Option Addr) (c' d' : Nat) wz hz hz' hy hy' => sameNote_any kd id nm si su at' o co a' a q' q n c' c m d' d L F F wz hz hz' hy hy' (fun i h => rfl)
  have hMl := enL_len kd id nm si su at' L F n m o co (alG F 65536 m) hlen
  generalize enL kd id nm si su at' L F m o co (ntB kd id nm.size si su at' n m o co (alG F 65536 m)) = M at h1 h2 hMl
  generalize ntB kd id nm.size si su at' n m o co (alG F 65536 m) = bb at h1 h2
  unfold EnA at h1 h2
  generalize enE bb = E at h1 h2
  have b0 := BxS.new w 27 #[.int .i64 kd, .int .i64 id, .string nm, .int .i64 si, .int .i64 su, .int .i64 at', .slice a n c, .slice q m d, .int .i64 o, .int .i64 co]
  have g0 := World.grownBy_alloc w (.cells #[.int .i64 kd, .int .i64 id, .string nm, .int .i64 si, .int .i64 su, .int .i64 at', .slice a n c, .slice q m d, .int .i64 o, .int .i64 co] 27) none
  unfold ntA at h0 h1 h2 h3 ⊢
  generalize hw0 : w.alloc (.cells #[.int .i64 kd, .int .i64 id, .string nm, .int .i64 si, .int .i64 su, .int .i64 at', .slice a n c, .slice q m d, .int .i64 o, .int .i64 co] 27) = w0 at b0 g0
  obtain ⟨e0, e1, e2, e3, e4, e5, e6, e7, e8, e9⟩ := b0.cell10
  have t1 : True := trivial
  go_enter Try.func3, Try.ntmps3
  go_wp2_with (first
    | (go_at_call 11; refine (h0 w0 (hL.keep g0) (hF.keep g0)).mono ?_; rintro e w1 ⟨g, q', d', D, rfl, hgl, R1, F1, hq, g1⟩; have p1 := BxS.new w1 27 #[.int .i64 kd, .int .i64 id, .string nm, .int .i64 si, .int .i64 su, .int .i64 at', .slice (some ⟨g, 0, none⟩) n (n + 5), .slice q' m d', .int .i64 o, .int .i64 co]; have gA := World.grownBy_alloc w1 (.cells #[.int .i64 kd, .int .i64 id, .string nm, .int .i64 si, .int .i64 su, .int .i64 at', .slice (some ⟨g, 0, none⟩) n (n + 5), .slice q' m d', .int .i64 o, .int .i64 co] 27) none; generalize hv1 : w1.alloc (.cells #[.int .i64 kd, .int .i64 id, .string nm, .int .i64 si, .int .i64 su, .int .i64 at', .slice (some ⟨g, 0, none⟩) n (n + 5), .slice q' m d', .int .i64 o, .int .i64 co] 27) = v1 at p1 gA; have k1 := grown_trans g1 gA; clear e0 e1 e2 e3 e4 e5 e6 e7 e8 e9; obtain ⟨e0, e1, e2, e3, e4, e5, e6, e7, e8, e9⟩ := (b0.keep k1 (by simp)).cell10; obtain ⟨d0, d1, d2, d3, d4, d5, d6, d7, d8, d9⟩ := p1.cell10)
    | (go_at_call 12; refine (h1 v1 (hL.keep (grown_trans g0 k1)) (hF.keep (grown_trans g0 k1))).mono ?_; rintro e w2 ⟨a2, l2, c2, rfl, A2, g2⟩; clear e0 e1 e2 e3 e4 e5 e6 e7 e8 e9 d0 d1 d2 d3 d4 d5 d6 d7 d8 d9; obtain ⟨e0, e1, e2, e3, e4, e5, e6, e7, e8, e9⟩ := ((b0.keep k1 (by simp)).keep g2 (by simp)).cell10; obtain ⟨d0, d1, d2, d3, d4, d5, d6, d7, d8, d9⟩ := (p1.keep g2 (by simp)).cell10; have t2 : True := trivial)
    | (go_at_call 13; have _t := t2; clear t2; refine (h2 _ _ _ _ w2 (((R1.keep gA).keep g2).rd hby hlen hn) ((F1.keep gA).keep g2)).mono ?_; rintro e w3 ⟨a3, l3, c3, rfl, A3, g3⟩; have g23 := grown_trans g2 g3; clear e0 e1 e2 e3 e4 e5 e6 e7 e8 e9 d0 d1 d2 d3 d4 d5 d6 d7 d8 d9; obtain ⟨e0, e1, e2, e3, e4, e5, e6, e7, e8, e9⟩ := ((b0.keep k1 (by simp)).keep g23 (by simp)).cell10; obtain ⟨d0, d1, d2, d3, d4, d5, d6, d7, d8, d9⟩ := (p1.keep g23 (by simp)).cell10; have t3 : True := trivial)
    | (go_at_call 13; have _t := t3; clear t3; refine (h2 _ _ _ _ w3 (((R1.keep gA).keep g23).rd hby hlen hn) ((F1.keep gA).keep g23)).mono ?_; rintro e w4 ⟨a4, l4, c4, rfl, A4, g4⟩; have g24 := grown_trans g23 g4; clear e0 e1 e2 e3 e4 e5 e6 e7 e8 e9 d0 d1 d2 d3 d4 d5 d6 d7 d8 d9; obtain ⟨e0, e1, e2, e3, e4, e5, e6, e7, e8, e9⟩ := ((b0.keep k1 (by simp)).keep g24 (by simp)).cell10; obtain ⟨d0, d1, d2, d3, d4, d5, d6, d7, d8, d9⟩ := (p1.keep g24 (by simp)).cell10; have t4 : True := trivial; have q1 := gA.size; have q2 := g2.size; have q3 := g3.size; have q0 := p1.lt; have q4 := g1.size; have q5 := b0.lt)
    | (go_at_call 14; refine (twice_any a3 a4 a2 l3 l4 l2 c3 c4 c2 w2.heap.size M w4 (A3.keep g4) A4.rd ((A2.keep (grown_trans g3 g4)).rd) (by have := A3.len; omega) (ans_sep1 A3 A4) (ans_sep2 A2 A3)).mono ?_; rintro e w5 ⟨rfl, g5⟩; have g5' : w4.grownBy w5 (Value.slice a3 l3 c3).ownBlock := g5; have z0 : w.heap.size < w2.heap.size := (by omega); have z1 : w1.heap.size < w2.heap.size := (by omega); clear e0 e1 e2 e3 e4 e5 e6 e7 e8 e9 d0 d1 d2 d3 d4 d5 d6 d7 d8 d9; have bz := ((b0.keep k1 (by simp)).keep g24 (by simp)).keep g5' (ans_lo A3 z0); have pz := (p1.keep g24 (by simp)).keep g5' (ans_lo A3 z1); obtain ⟨e0, e1, e2, e3, e4, e5, e6, e7, e8, e9⟩ := bz.cell10; obtain ⟨d0, d1, d2, d3, d4, d5, d6, d7, d8, d9⟩ := pz.cell10; have R5 := Rd.far (R1.rd hby hlen hn) (((R1.keep gA).keep g24).rd hby hlen hn) g5' (fun x hx => by have := A3.new x hx; omega); have L5 := Rd.far hL (hL.keep (grown_trans (grown_trans g0 k1) g24)) g5' (fun x hx => by have := A3.new x hx; omega); have F5 := RdG.far F1 ((F1.keep gA).keep g24) g5' (fun x hx => by have := A3.new x hx; omega); have G5 := RdG.far hF (hF.keep (grown_trans (grown_trans g0 k1) g24)) g5' (fun x hx => by have := A3.new x hx; omega))
    | (go_at_call 15; refine (h3 _ _ _ _ w5 R5 L5 F5 G5).mono ?_; rintro e w6 ⟨rfl, g6⟩))
  have K4 : w.grownBy w4 none := grown_trans (grown_trans g0 k1) g24
  have K5 : w.grownBy w5 none := grown_far K4 g5' (fun x hx => by have := A3.new x hx; omega)
  go_ret
  exact ⟨rfl, (Below.refl _ _).grown (grown_trans K5 g6) (Nat.le_refl _) (fun k hk => by cases hk)⟩
end Go.Proofs.Ytibomgbejpgmiaa
