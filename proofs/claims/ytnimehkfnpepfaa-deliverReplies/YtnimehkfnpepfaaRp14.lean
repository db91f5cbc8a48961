import Derived.Test.YtnimehkfnpepfaaRp12
import Derived.Test.YtnimehkfnpepfaaRp8
import Derived.Test.YtnimehkfnpepfaaRp13
namespace Go.Proofs.Ytnimehkfnpepfaa
open Go.RowKit
set_option maxRecDepth 100000
set_option linter.unusedVariables false
set_option linter.unusedSimpArgs false

section
/-- the document's giver at work: the note's box, the answer's, the giver's -/
structure DG (wB w : World) (g3 g4 g7 : Nat) (NN : Array Value) (id : Int) (nm : ByteArray) (mo bu st : Int) (fi : Bool) (at' ti pa tr li : Int) (a : Option Addr) (n c : Nat) (L : List Nat) (q : Option Addr) (m d : Nat) (G : List (Int × Int)) : Prop where
  b3 : BxS w g3 27 NN
  b4 : ∃ cs : Array Value, cs.size = 13 ∧ BxS w g4 44 cs
  b7 : BxS w g7 44 #[.int .i64 id, .string nm, .slice a n c, .int .i64 mo, .int .i64 bu, .int .i64 st, .bool fi, .int .i64 at', .slice q m d, .int .i64 ti, .int .i64 pa, .int .i64 tr, .int .i64 li]
  A : Ans w wB.heap.size a n c L
  O : OwGi w wB.heap.size q m d G
  l4 : wB.heap.size ≤ g4
  l7 : wB.heap.size ≤ g7
  ne : g4 ≠ g7
  g : wB.grownBy w none
section
variable {wB w w' : World} {g3 g4 g7 : Nat} {NN : Array Value} {id : Int} {nm : ByteArray} {mo bu st : Int} {fi : Bool} {at' ti pa tr li : Int} {a : Option Addr} {n c : Nat} {L : List Nat} {q : Option Addr} {m d : Nat} {G : List (Int × Int)}
theorem DG.set (h : DG wB w g3 g4 g7 NN id nm mo bu st fi at' ti pa tr li a n c L q m d G) (u : w.grownBy w' (some g7)) {st2 : Int} {fi2 : Bool} {at2 ti2 tr2 : Int} (b : BxS w' g7 44 #[.int .i64 id, .string nm, .slice a n c, .int .i64 mo, .int .i64 bu, .int .i64 st2, .bool fi2, .int .i64 at2, .slice q m d, .int .i64 ti2, .int .i64 pa, .int .i64 tr2, .int .i64 li]) : DG wB w' g3 g4 g7 NN id nm mo bu st2 fi2 at2 ti2 pa tr2 li a n c L q m d G := by
  obtain ⟨cs, h1, h2⟩ := h.b4
  exact ⟨h.b3.keep u (fun e => BxS.apart h.b3 h.b7 (by decide) (Option.some.inj e)), ⟨cs, h1, h2.keep u (fun e => h.ne (Option.some.inj e))⟩, b, h.A.kRR u (fun z e e2 => by have e := Option.some.inj e; subst e; exact own_ty h.A.own h.b7 (by decide) e2), h.O.bx h.b7 (by decide) u, h.l4, h.l7, h.ne, grown_far h.g u (fun z e => by have e := Option.some.inj e; have := h.l7; omega)⟩
theorem DG.set0 (h : DG wB w g3 g4 g7 NN id nm mo bu st fi at' ti pa tr li a n c L q m d G) (u : w.grownBy w' (some g7)) (b : BxS w' g7 44 #[.int .i64 id, .string nm, .slice a n c, .int .i64 mo, .int .i64 bu, .int .i64 st, .bool fi, .int .i64 at', .slice none 0 0, .int .i64 ti, .int .i64 pa, .int .i64 tr, .int .i64 li]) : DG wB w' g3 g4 g7 NN id nm mo bu st fi at' ti pa tr li a n c L none 0 0 [] := by
  obtain ⟨cs, h1, h2⟩ := h.b4
  exact ⟨h.b3.keep u (fun e => BxS.apart h.b3 h.b7 (by decide) (Option.some.inj e)), ⟨cs, h1, h2.keep u (fun e => h.ne (Option.some.inj e))⟩, b, h.A.kRR u (fun z e e2 => by have e := Option.some.inj e; subst e; exact own_ty h.A.own h.b7 (by decide) e2), OwGi.nil _ _, h.l4, h.l7, h.ne, grown_far h.g u (fun z e => by have e := Option.some.inj e; have := h.l7; omega)⟩
theorem DG.keepN (h : DG wB w g3 g4 g7 NN id nm mo bu st fi at' ti pa tr li a n c L q m d G) (u : w.grownBy w' none) : DG wB w' g3 g4 g7 NN id nm mo bu st fi at' ti pa tr li a n c L q m d G := by
  obtain ⟨cs, h1, h2⟩ := h.b4
  exact ⟨h.b3.keep u (by simp), ⟨cs, h1, h2.keep u (by simp)⟩, h.b7.keep u (by simp), h.A.keep u, h.O.keep u, h.l4, h.l7, h.ne, grown_trans h.g u⟩
theorem DG.push (h : DG wB w g3 g4 g7 NN id nm mo bu st fi at' ti pa tr li a n c L q m d G) {w8 : World} {gx cx : Nat} {x y : Int} (hor : (Value.slice q m d).ownBlock = some gx ∨ w.heap.size ≤ gx) (u : w.grownBy w8 (Value.slice q m d).ownBlock) (hO8 : w8.ownsRow 0 82 2 (.slice (some ⟨gx, 0, none⟩) (m + 1) cx) (m + 1) (flG (giF G) m ++ [.int .i64 x, .int .i64 y]))
    (u9 : w8.grownBy w' (some g7)) (b9 : BxS w' g7 44 #[.int .i64 id, .string nm, .slice a n c, .int .i64 mo, .int .i64 bu, .int .i64 st, .bool fi, .int .i64 at', .slice (some ⟨gx, 0, none⟩) (m + 1) cx, .int .i64 ti, .int .i64 pa, .int .i64 tr, .int .i64 li]) : DG wB w' g3 g4 g7 NN id nm mo bu st fi at' ti pa tr li a n c L (some ⟨gx, 0, none⟩) (m + 1) cx (G ++ [(x, y)]) := by
  obtain ⟨cs, h1, h2⟩ := h.b4
  have hrow : ∀ z, (Value.slice q m d).ownBlock = some z → ∃ cs, BxS w z 82 cs := fun z e => own_bxS h.O.own e
  have n3 := h.b3.keep u (fun e => by obtain ⟨cs, hb⟩ := hrow _ e.symm; exact BxS.apart h.b3 hb (by decide) rfl)
  have n4 := h2.keep u (fun e => by obtain ⟨cs, hb⟩ := hrow _ e.symm; exact BxS.apart h2 hb (by decide) rfl)
  have n7 := h.b7.keep u (fun e => by obtain ⟨cs, hb⟩ := hrow _ e.symm; exact BxS.apart h.b7 hb (by decide) rfl)
  have hA := h.A.kRR u (fun z e e2 => by obtain ⟨cs, hb⟩ := hrow _ e; exact own_ty h.A.own hb (by decide) e2)
  have hz := h.g.size
  rw [← giF_push G (x, y) m h.O.len] at hO8
  refine ⟨n3.keep u9 (fun e => BxS.apart n3 n7 (by decide) (Option.some.inj e)), ⟨cs, h1, n4.keep u9 (fun e => h.ne (Option.some.inj e))⟩, b9, hA.kRR u9 (fun z e e2 => by have e := Option.some.inj e; subst e; exact own_ty hA.own n7 (by decide) e2), ⟨hO8.kept u9 (.inr (fun e => own_ty hO8 n7 (by decide) e)), by rw [List.length_append, h.O.len]; rfl, fun g e => ?_⟩, h.l4, h.l7, h.ne, grown_far (grown_far h.g u (fun z e => h.O.new z e)) u9 (fun z e => by have e := Option.some.inj e; have := h.l7; omega)⟩
  have e : gx = g := Option.some.inj e
  subst e
  rcases hor with e | e
  · exact h.O.new _ e
  · omega
theorem DG.fin (h : DG wB w g3 g4 g7 NN id nm mo bu st fi at' ti pa tr li a n c L q m d G) (u : w.grownBy w' (some g4)) (E : Nat) : RpA wB id nm mo bu st fi at' ti pa tr li L G [] E (.returned (.tuple #[.agg #[.int .i64 id, .string nm, .slice a n c, .int .i64 mo, .int .i64 bu, .int .i64 st, .bool fi, .int .i64 at', .slice q m d, .int .i64 ti, .int .i64 pa, .int .i64 tr, .int .i64 li], .slice none 0 0, .int .i64 (E : Nat)])) w' := by
  obtain ⟨cs, h1, h2⟩ := h.b4
  have e1 := h.A.len
  have e2 := h.O.len
  subst e1 e2
  exact ⟨a, c, q, d, none, 0, rfl, h.A.kRR u (fun z e e2 => by have e := Option.some.inj e; subst e; exact own_ty h.A.own h2 (by decide) e2), h.O.bx h2 (by decide) u, OwN.nil _ _, (fun z e => nbl_nil), (fun z e => nbl_nil), grown_far h.g u (fun z e => by have e := Option.some.inj e; have := h.l4; omega)⟩
end
theorem agN_stop (n : Nat) (G : List (Int × Int)) (F : Nat → Int × Int) (j : Nat) (h : ¬ (agN n G F j).length < 1000) : ∀ k, j ≤ k → agN n G F k = agN n G F j := by
  intro k
  induction k with
  | zero => intro hk; obtain rfl : j = 0 := by omega
            rfl
  | succ k ih =>
    intro hk
    by_cases e : j = k + 1
    · subst e; rfl
    · have := ih (by omega)
      show agP n (agN n G F k) (F k) = _
      rw [this, agP_no1 h]
theorem alG_at {F : Nat → Int × Int} {s : Int} {n : Nat} (h : alG F s n = true) {j : Nat} (hj : j < n) : (((F j).1 = 0 ∧ (F j).2 = 0) ∨ (0 ≤ (F j).1 ∧ (F j).1 < (F j).2 ∧ (F j).2 ≤ s)) := by
  by_cases hg : gpB (F j).1 (F j).2 s = true
  · unfold gpB at hg; exact of_decide_eq_true hg
  · rw [alG_no F s j (by simpa using hg) n hj] at h; cases h

section
variable {wB w w' : World} {g3 g4 g7 : Nat} {NN : Array Value} {id : Int} {nm : ByteArray} {mo bu st : Int} {fi : Bool} {at' ti pa tr li : Int} {a : Option Addr} {n c : Nat} {L : List Nat} {q : Option Addr} {m d : Nat} {G : List (Int × Int)}
/-- a box of pairs that is none of its own is written -/
theorem DG.box (h : DG wB w g3 g4 g7 NN id nm mo bu st fi at' ti pa tr li a n c L q m d G) {g : Nat} {t : TypeId} {cs : Array Value} (hb : BxS w g t cs) (h1 : 44 ≠ t) (h2 : 27 ≠ t) (h3 : 5 ≠ t) (hq : (Value.slice q m d).ownBlock ≠ some g) (hl : wB.heap.size ≤ g) (u : w.grownBy w' (some g)) : DG wB w' g3 g4 g7 NN id nm mo bu st fi at' ti pa tr li a n c L q m d G := by
  obtain ⟨cs4, k1, k2⟩ := h.b4
  exact ⟨h.b3.keep u (fun e => BxS.apart h.b3 hb h2 (Option.some.inj e)), ⟨cs4, k1, k2.keep u (fun e => BxS.apart k2 hb h1 (Option.some.inj e))⟩, h.b7.keep u (fun e => BxS.apart h.b7 hb h1 (Option.some.inj e)), h.A.kRR u (fun z e e2 => by have e := Option.some.inj e; subst e; exact own_ty h.A.own hb h3 e2), h.O.kR u (fun z e => by have e := Option.some.inj e; subst e; exact hq), h.l4, h.l7, h.ne, grown_far h.g u (fun z e => by have e := Option.some.inj e; omega)⟩
end

set_option maxHeartbeats 16000000 in
theorem rr_t35 {u0 u1 u2 u5 u6 u8 u9 u10 u11 u12 u13 u14 u15 u16 u17 u18 u19 u20 u21 u22 u23 u24 u25 u26 u27 u28 u29 u30 u31 u32 u33 u34 u35 u36 u37 u38 u39 u40 u41 u42 u43 u44 u45 u46 u47 u48 u49 u50 u51 u52 u53 u54 u55 u56 u57 u58 u59 u60 u61 u62 u63 u64 u65 u66 u67 u68 u69 u70 u71 u72 u73 u74 u75 u76 u77 u78 u79 u80 u81 u82 u83 u84 u85 u86 u87 u88 u89 u90 u91 u92 u93 u94 u95 u96 u97 u98 u99 u100 u101 u102 u103 u104 u105 u106 u107 u108 u109 u110 u111 u112 u113 u114 u115 u116 u117 u118 u119 u120 u121 u122 u123 u124 u125 u126 u127 u128 u129 u130 u131 u132 u133 u134 : Value} (P : Ending → World → Prop) (wB w : World) (g3 g4 g7 : Nat) (kd nid : Int) (nm2 : ByteArray) (si su at2 : Int) (pa2 : Option Addr) (pn pc : Nat) (ga : Option Addr) (gm gd : Nat) (o co : Int) (id : Int) (nm : ByteArray) (mo bu st : Int) (fi : Bool) (at' ti pa tr li : Int) (a : Option Addr) (n c : Nat) (L : List Nat) (q : Option Addr) (m d : Nat) (G : List (Int × Int)) (h : DG wB w g3 g4 g7 (#[.int .i64 kd, .int .i64 nid, .string nm2, .int .i64 si, .int .i64 su, .int .i64 at2, .slice pa2 pn pc, .slice ga gm gd, .int .i64 o, .int .i64 co]) id nm mo bu st fi at' ti pa tr li a n c L q m d G) (hP : ∀ e w', RpA wB id nm mo bu st fi at' ti pa tr li L G [] 0 e w' → P e w') :
    Code.wp Try.prog (tailR 35 (Try.f33.body.getD .skip)) (bodyPost Try.prog Try.f33 P) (Act.mk (List.toArray (u0 :: u1 :: u2 :: (.pointer (some ⟨g3, 0, none⟩)) :: (.pointer (some ⟨g4, 0, none⟩)) :: u5 :: u6 :: (.pointer (some ⟨g7, 0, none⟩)) :: u8 :: u9 :: u10 :: u11 :: u12 :: u13 :: u14 :: u15 :: u16 :: u17 :: u18 :: u19 :: u20 :: u21 :: u22 :: u23 :: u24 :: u25 :: u26 :: u27 :: u28 :: u29 :: u30 :: u31 :: u32 :: u33 :: u34 :: u35 :: u36 :: u37 :: u38 :: u39 :: u40 :: u41 :: u42 :: u43 :: u44 :: u45 :: u46 :: u47 :: u48 :: u49 :: u50 :: u51 :: u52 :: u53 :: u54 :: u55 :: u56 :: u57 :: u58 :: u59 :: u60 :: u61 :: u62 :: u63 :: u64 :: u65 :: u66 :: u67 :: u68 :: u69 :: u70 :: u71 :: u72 :: u73 :: u74 :: u75 :: u76 :: u77 :: u78 :: u79 :: u80 :: u81 :: u82 :: u83 :: u84 :: u85 :: u86 :: u87 :: u88 :: u89 :: u90 :: u91 :: u92 :: u93 :: u94 :: u95 :: u96 :: u97 :: u98 :: u99 :: u100 :: u101 :: u102 :: u103 :: u104 :: u105 :: u106 :: u107 :: u108 :: u109 :: u110 :: u111 :: u112 :: u113 :: u114 :: u115 :: u116 :: u117 :: u118 :: u119 :: u120 :: u121 :: u122 :: u123 :: u124 :: u125 :: u126 :: u127 :: u128 :: u129 :: u130 :: u131 :: u132 :: u133 :: u134 :: [])) []) w := by
  conv => enter [2]; whnf
  have HP : Hid _ := hP
  clear hP
  obtain ⟨cs4, hs4, b4⟩ := h.b4
  have i13 := Try.info_gv
  have s0 : True := trivial
  go_wp2_with (first
    | (have _t := s0; clear s0; refine wpList_ldX _ rfl _ (.tmp 7) rfl g7 _ rfl h.b7 Try.underlying44 i13 ?_; have s1 : True := trivial)
    | (have _t := s1; clear s1; refine wpList_stX _ rfl _ (.tmp 4) (.tmp 134) rfl g4 _ _ rfl rfl b4 i13 hs4 (by simp [Value.oneCell']) ?_; intro wA bA uA))
  refine bodyPost_ret (results_c1t2 rfl _ _ _ ⟨g4, 0, none⟩ _ _ _ rfl (BxS.load (t := 44) bA Try.underlying44 Try.info_gv) rfl rfl) rfl ?_
  exact HP.out _ _ (h.fin uA 0)

set_option maxHeartbeats 64000000 in
theorem rr_t27 {u0 u1 u2 u5 u6 u8 u9 u10 u11 u12 u13 u14 u15 u16 u17 u18 u19 u20 u21 u22 u23 u24 u25 u26 u27 u28 u29 u30 u31 u32 u33 u34 u35 u36 u37 u38 u39 u40 u41 u42 u43 u44 u45 u46 u47 u48 u49 u50 u51 u52 u53 u54 u55 u56 u57 u58 u59 u60 u61 u62 u63 u64 u65 u66 u67 u68 u69 u70 u71 u72 u73 u74 u75 u76 u77 u78 u79 u80 u81 u82 u83 u84 u85 u86 u87 u88 u89 u90 u91 u92 u93 u94 u95 u96 u97 u98 u99 u100 u101 u102 u103 u104 u105 u106 u107 u108 u109 u110 u111 u112 u113 u114 u115 u116 u117 u118 u119 u120 u121 u122 u123 u124 u125 u126 u127 u128 u129 u130 u131 u132 u133 u134 : Value} (P : Ending → World → Prop) (wB w : World) (g3 g4 g7 : Nat) (kd nid : Int) (nm2 : ByteArray) (si su at2 : Int) (pa2 : Option Addr) (pn pc : Nat) (ga : Option Addr) (gm gd : Nat) (o co : Int) (id : Int) (nm : ByteArray) (mo bu st : Int) (fi : Bool) (at' ti pa tr li : Int) (a : Option Addr) (n c : Nat) (L : List Nat) (q : Option Addr) (m d : Nat) (G : List (Int × Int)) (h : DG wB w g3 g4 g7 (#[.int .i64 kd, .int .i64 nid, .string nm2, .int .i64 si, .int .i64 su, .int .i64 at2, .slice pa2 pn pc, .slice ga gm gd, .int .i64 o, .int .i64 co]) id nm mo bu st fi at' ti pa tr li a n c L q m d G) (F2 : Nat → Int × Int) (hF2 : RdG wB ga gm gd F2) (hm : m ≤ 1000) (hal : alG F2 65536 gm = true) (hP : ∀ e w', RpA wB id nm mo bu st fi at' ti pa tr li L (agN n G F2 gm) [] 0 e w' → P e w') :
    Code.wp Try.prog (tailR 27 (Try.f33.body.getD .skip)) (bodyPost Try.prog Try.f33 P) (Act.mk (List.toArray (u0 :: u1 :: u2 :: (.pointer (some ⟨g3, 0, none⟩)) :: (.pointer (some ⟨g4, 0, none⟩)) :: u5 :: u6 :: (.pointer (some ⟨g7, 0, none⟩)) :: u8 :: u9 :: u10 :: u11 :: u12 :: u13 :: u14 :: u15 :: u16 :: u17 :: u18 :: u19 :: u20 :: u21 :: u22 :: u23 :: u24 :: u25 :: u26 :: u27 :: u28 :: u29 :: u30 :: u31 :: u32 :: u33 :: u34 :: u35 :: u36 :: u37 :: u38 :: u39 :: u40 :: u41 :: u42 :: u43 :: u44 :: u45 :: u46 :: u47 :: u48 :: u49 :: u50 :: u51 :: u52 :: u53 :: u54 :: u55 :: u56 :: u57 :: u58 :: u59 :: u60 :: u61 :: u62 :: u63 :: u64 :: u65 :: u66 :: u67 :: u68 :: u69 :: u70 :: u71 :: u72 :: u73 :: u74 :: u75 :: u76 :: u77 :: u78 :: u79 :: u80 :: u81 :: u82 :: u83 :: u84 :: u85 :: u86 :: u87 :: u88 :: u89 :: u90 :: u91 :: u92 :: u93 :: u94 :: u95 :: u96 :: u97 :: u98 :: u99 :: u100 :: u101 :: u102 :: u103 :: u104 :: u105 :: u106 :: u107 :: u108 :: u109 :: u110 :: u111 :: u112 :: u113 :: u114 :: u115 :: u116 :: u117 :: u118 :: u119 :: u120 :: u121 :: u122 :: u123 :: u124 :: u125 :: u126 :: u127 :: u128 :: u129 :: u130 :: u131 :: u132 :: u133 :: u134 :: [])) []) w := by
  conv => enter [2]; whnf
  have HP : Hid _ := hP
  clear hP
  have hmx := hF2.max
  have hle := hF2.le
  unfold maxLen at hmx
  have i2 := Try.info_sp
  have u2 := Try.underlying82
  obtain ⟨i0, hi, hz0, hz1, hz2⟩ := info_parts Try.info_pr
  have HAL : Hid _ := hal
  clear hal
  refine wp_seq_k fun K1 hK1 => ?_
  have HK1 : Hid _ := hK1
  clear hK1
  go_wp2
  go_loopw [8] (fun iv wr => ∃ (j : Nat) (q1 : Option Addr) (m1 d1 : Nat) (G1 : List (Int × Int)), j ≤ gm ∧ iv = .int .i64 j ∧ DG wB wr g3 g4 g7 (#[.int .i64 kd, .int .i64 nid, .string nm2, .int .i64 si, .int .i64 su, .int .i64 at2, .slice pa2 pn pc, .slice ga gm gd, .int .i64 o, .int .i64 co]) id nm mo bu st fi at' ti pa tr li a n c L q1 m1 d1 G1 ∧ m1 ≤ 1000 ∧ Hid (G1 = agN n G F2 j)) (fun iv _ => gm - (intOf iv).toNat)
  case atStart => exact ⟨0, q, m, d, G, Nat.zero_le _, rfl, h, hm, rfl⟩
  case round =>
    obtain ⟨j, q1, m1, d1, G1, hj, rfl, h1, hm1, HG⟩ := hrel
    have hl1 : G1.length = m1 := h1.O.len
    have HL1 : Hid _ := hl1
    clear hl1
    have x8 : wr.cell? ⟨g7, 8, none⟩ = some (.slice q1 m1 d1) := h1.b7.cell 8 (by show 8 < 13; decide)
    have e7 : wr.cell? ⟨g3, 7, none⟩ = some (.slice ga gm gd) := h1.b3.cell 7 (by show 7 < 10; decide)
    by_cases hlt : j < gm
    · have lj : (j : Int) < (gm : Int) := by omega
      by_cases hlm : m1 < 1000
      · have lm : (m1 : Int) < 1000 := by omega
        obtain ⟨b, off, rfl, hb, hc⟩ := (hF2.keep h1.g).at' (by omega)
        obtain ⟨p0, p1⟩ := hc j hlt
        have HS : Hid (agN n G F2 (j + 1) = agP n (agN n G F2 j) (F2 j)) := rfl
        have hgp := alG_at HAL.out hlt
        obtain ⟨x, y, hxy9⟩ : ∃ x y, F2 j = (x, y) := ⟨_, _, rfl⟩
        rw [hxy9] at p0 p1 HS hgp
        have HGP : Hid ((x = 0 ∧ y = 0) ∨ (0 ≤ x ∧ x < y ∧ y ≤ 65536)) := hgp
        have HX9 : Hid _ := hxy9
        clear hc hxy9 hgp
        have HG' : Hid (agN n G F2 j = G1) := by show _ = _; exact HG.out.symm
        clear HG
        have HG := HG'
        clear HG'
        refine wp_seq_k fun K3 hK3 => ?_
        have HK3 : Hid _ := hK3
        clear hK3
        go_wp2
        refine HK3.out _ _ ?_
        clear HK3
        refine wp_seq_k fun K4 hK4 => ?_
        have HK4 : Hid _ := hK4
        clear hK4
        refine wp_block ?_
        refine wp_seq_k fun K5 hK5 => ?_
        have HK5 : Hid _ := hK5
        clear hK5
        have bn0 := BxS.new wr 82 #[.int .i64 0, .int .i64 0]
        have gn0 := World.grownBy_alloc wr (.cells #[.int .i64 0, .int .i64 0] 82) none
        generalize hw1 : wr.alloc (.cells #[.int .i64 0, .int .i64 0] 82) = w1 at bn0 gn0
        have s0 : True := trivial
        go_wp2_with (have _t := s0; clear s0; refine wpList_stX _ rfl _ (.tmp 9) (.tmp 103) rfl wr.heap.size _ _ rfl rfl bn0 i2 rfl (by simp [Value.oneCell']) ?_; intro w2 b92 u2')
        have hG2 : wr.grownBy w2 none := grown_far gn0 u2' (fun z e => by have e := Option.some.inj e; omega)
        have h2 := h1.keepN hG2
        have hq9 : (Value.slice q1 m1 d1).ownBlock ≠ some wr.heap.size := fun e => by have := h1.O.lt e; omega
        have hg7 : wr.heap.size ≠ g7 := fun e => by have := h1.b7.lt; omega
        obtain ⟨g9, hg9⟩ : ∃ g9, wr.heap.size = g9 := ⟨_, rfl⟩
        have hb9 : b ≠ g9 := by omega
        have hl9 : wB.heap.size ≤ g9 := by have := h1.g.size; omega
        rw [hg9] at b92 hq9 hg7 ⊢
        clear hg9 u2' bn0 gn0 hw1 p0 p1 x8 e7
        refine HK5.out _ _ ?_
        clear HK5
        refine wp_seq_k fun K6 hK6 => ?_
        have HK6 : Hid _ := hK6
        clear hK6
        have x22 : w2.cell? ⟨g7, 2, none⟩ = some (.slice a n c) := h2.b7.cell 2 (by show 2 < 13; decide)
        obtain ⟨z0, z1⟩ := b92.cell2
        by_cases hyn : y ≤ (n : Int)
        · have hyn' : ¬ (n : Int) < y := by omega
          have HY : Hid (y = if y ≤ (n : Int) then y else (n : Int)) := by show _ = _; rw [if_pos hyn]
          go_wp2
          refine HK6.out _ _ ?_
          clear HK6
          clear z0 z1
          obtain ⟨w6, hw6⟩ : ∃ w6, w6 = w2 := ⟨_, rfl⟩
          rw [← hw6] at h2 b92 ⊢
          have h6 := h2
          have b96 := b92
          have p16 : w6.cell? ⟨b, off + j * 2 + 1, none⟩ = some (.int .i64 y) := by
            obtain ⟨b', off', e', _, hc'⟩ := (hF2.keep h6.g).at' (by omega)
            cases e'
            have h9 := (hc' j hlt).2
            rw [HX9.out] at h9
            exact h9
          clear h2 b92 hw6
          obtain ⟨z0, z1⟩ := b96.cell2
          have e76 : w6.cell? ⟨g3, 7, none⟩ = some (.slice (some ⟨b, off, none⟩) gm gd) := h6.b3.cell 7 (by show 7 < 10; decide)
          by_cases hy0 : y = 0
          · obtain rfl : x = 0 := by have := HGP.out; omega
            subst hy0
            refine wp_seq_k fun K7 hK7 => ?_
            have HK7 : Hid _ := hK7
            clear hK7
            go_wp2
            refine HK7.out _ _ ?_
            clear HK7
            refine wp_cond_true rfl ?_
            have bA := BxS.new w6 82 #[.int .i64 0, .int .i64 0]
            have yA := World.grownBy_alloc w6 (.cells #[.int .i64 0, .int .i64 0] 82) none
            have zA : (w6.alloc (.cells #[.int .i64 0, .int .i64 0] 82)).heap.size = w6.heap.size + 1 := by simp
            generalize hwA : w6.alloc (.cells #[.int .i64 0, .int .i64 0] 82) = wA at bA yA zA
            have hA6 := h6.keepN yA
            have x8 : wA.cell? ⟨g7, 8, none⟩ = some (.slice q1 m1 d1) := hA6.b7.cell 8 (by show 8 < 13; decide)
            have x86 : w6.cell? ⟨g7, 8, none⟩ = some (.slice q1 m1 d1) := h6.b7.cell 8 (by show 8 < 13; decide)
            have s0 : True := trivial
            go_wp2_with (first
              | (at_builtin; have _t := s0; clear s0; refine wpList_apS wA rfl _ _ 24 82 i0 (.agg #[.int .i64 0, .int .i64 0]) 2 16 Try.underlying24 hi hz0 hz1 hz2 rfl (by decide) rfl (.slice q1 m1 d1) m1 (flG (giF G1) m1) rfl hA6.O.own ⟨w6.heap.size, 0, none⟩ 1 1 [.int .i64 0, .int .i64 0] rfl rfl bA.newsA (by intro u hu; simp only [List.mem_cons, List.not_mem_nil, or_false] at hu; rcases hu with rfl | rfl <;> rfl) (by decide) (by unfold maxLen; omega) (by omega) ?_; intro gx cx w8 hor u8 hO8; have n78 := hA6.b7.keep u8 (fun e => own_ty hA6.O.own hA6.b7 (by decide) e.symm); have s1 : True := trivial)
              | (have _t := s1; clear s1; refine wpList_stC _ rfl _ _ _ rfl g7 8 44 _ #[.int .i64 id, .string nm, .slice a n c, .int .i64 mo, .int .i64 bu, .int .i64 st, .bool fi, .int .i64 at', .slice (some ⟨gx, 0, none⟩) (m1 + 1) cx, .int .i64 ti, .int .i64 pa, .int .i64 tr, .int .i64 li] (.slice (some ⟨gx, 0, none⟩) (m1 + 1) cx) rfl rfl n78 (stc_slG _ _ _ _ _) (by show 8 < 13; decide) rfl ?_; intro w9 b79 u9))
            have h9 := hA6.push hor u8 hO8 u9 b79
            try simp only [Exit.inBlock, Exit.then]
            refine HK4.out _ _ ?_
            clear HK4
            go_wp2
            go_roundw
            case rel => exact ⟨j + 1, _, _, _, _, by omega, by go_num, h9, by omega, by show _ = _; rw [HS.out, HG.out, agP_in (by have := HL1.out; omega) HY.out (.inl ⟨rfl, rfl⟩)]⟩
            case measure => simp [intOf] <;> omega
          · have hxy : x < y := by have := HGP.out; omega
            refine wp_seq_k fun K7 hK7 => ?_
            have HK7 : Hid _ := hK7
            clear hK7
            go_wp2
            refine HK7.out _ _ ?_
            clear HK7
            refine wp_cond_true rfl ?_
            have bA := BxS.new w6 82 #[.int .i64 x, .int .i64 y]
            have yA := World.grownBy_alloc w6 (.cells #[.int .i64 x, .int .i64 y] 82) none
            have zA : (w6.alloc (.cells #[.int .i64 x, .int .i64 y] 82)).heap.size = w6.heap.size + 1 := by simp
            generalize hwA : w6.alloc (.cells #[.int .i64 x, .int .i64 y] 82) = wA at bA yA zA
            have hA6 := h6.keepN yA
            have x8 : wA.cell? ⟨g7, 8, none⟩ = some (.slice q1 m1 d1) := hA6.b7.cell 8 (by show 8 < 13; decide)
            have x86 : w6.cell? ⟨g7, 8, none⟩ = some (.slice q1 m1 d1) := h6.b7.cell 8 (by show 8 < 13; decide)
            have s0 : True := trivial
            go_wp2_with (first
              | (at_builtin; have _t := s0; clear s0; refine wpList_apS wA rfl _ _ 24 82 i0 (.agg #[.int .i64 0, .int .i64 0]) 2 16 Try.underlying24 hi hz0 hz1 hz2 rfl (by decide) rfl (.slice q1 m1 d1) m1 (flG (giF G1) m1) rfl hA6.O.own ⟨w6.heap.size, 0, none⟩ 1 1 [.int .i64 x, .int .i64 y] rfl rfl bA.newsA (by intro u hu; simp only [List.mem_cons, List.not_mem_nil, or_false] at hu; rcases hu with rfl | rfl <;> rfl) (by decide) (by unfold maxLen; omega) (by omega) ?_; intro gx cx w8 hor u8 hO8; have n78 := hA6.b7.keep u8 (fun e => own_ty hA6.O.own hA6.b7 (by decide) e.symm); have s1 : True := trivial)
              | (have _t := s1; clear s1; refine wpList_stC _ rfl _ _ _ rfl g7 8 44 _ #[.int .i64 id, .string nm, .slice a n c, .int .i64 mo, .int .i64 bu, .int .i64 st, .bool fi, .int .i64 at', .slice (some ⟨gx, 0, none⟩) (m1 + 1) cx, .int .i64 ti, .int .i64 pa, .int .i64 tr, .int .i64 li] (.slice (some ⟨gx, 0, none⟩) (m1 + 1) cx) rfl rfl n78 (stc_slG _ _ _ _ _) (by show 8 < 13; decide) rfl ?_; intro w9 b79 u9))
            have h9 := hA6.push hor u8 hO8 u9 b79
            try simp only [Exit.inBlock, Exit.then]
            refine HK4.out _ _ ?_
            clear HK4
            go_wp2
            go_roundw
            case rel => exact ⟨j + 1, _, _, _, _, by omega, by go_num, h9, by omega, by show _ = _; rw [HS.out, HG.out, agP_in (by have := HL1.out; omega) HY.out (.inr hxy)]⟩
            case measure => simp [intOf] <;> omega
        · have hyn' : (n : Int) < y := by omega
          have HY : Hid ((n : Int) = if y ≤ (n : Int) then y else (n : Int)) := by show _ = _; rw [if_neg hyn]
          have s0 : True := trivial
          go_wp2_with (have _t := s0; clear s0; refine wpList_stC _ rfl _ _ _ rfl g9 1 82 _ #[.int .i64 x, .int .i64 (n : Int)] (.int .i64 (n : Int)) rfl rfl b92 (stc_int _ _ _) (by show 1 < 2; decide) rfl ?_; intro w6 b96 u6)
          refine HK6.out _ _ ?_
          clear HK6
          clear z0 z1
          have h6 := h2.box b92 (by decide) (by decide) (by decide) hq9 hl9 u6
          have p16 : w6.cell? ⟨b, off + j * 2 + 1, none⟩ = some (.int .i64 y) := by
            obtain ⟨b', off', e', _, hc'⟩ := (hF2.keep h6.g).at' (by omega)
            cases e'
            have h9 := (hc' j hlt).2
            rw [HX9.out] at h9
            exact h9
          clear h2 b92
          obtain ⟨z0, z1⟩ := b96.cell2
          have e76 : w6.cell? ⟨g3, 7, none⟩ = some (.slice (some ⟨b, off, none⟩) gm gd) := h6.b3.cell 7 (by show 7 < 10; decide)
          have hy0 : y ≠ 0 := by omega
          by_cases hxy : x < (n : Int)
          · have HXY : Hid _ := hxy
            refine wp_seq_k fun K7 hK7 => ?_
            have HK7 : Hid _ := hK7
            clear hK7
            go_wp2
            refine HK7.out _ _ ?_
            clear HK7
            refine wp_cond_true rfl ?_
            have bA := BxS.new w6 82 #[.int .i64 x, .int .i64 (n : Int)]
            have yA := World.grownBy_alloc w6 (.cells #[.int .i64 x, .int .i64 (n : Int)] 82) none
            have zA : (w6.alloc (.cells #[.int .i64 x, .int .i64 (n : Int)] 82)).heap.size = w6.heap.size + 1 := by simp
            generalize hwA : w6.alloc (.cells #[.int .i64 x, .int .i64 (n : Int)] 82) = wA at bA yA zA
            have hA6 := h6.keepN yA
            have x8 : wA.cell? ⟨g7, 8, none⟩ = some (.slice q1 m1 d1) := hA6.b7.cell 8 (by show 8 < 13; decide)
            have x86 : w6.cell? ⟨g7, 8, none⟩ = some (.slice q1 m1 d1) := h6.b7.cell 8 (by show 8 < 13; decide)
            have s0 : True := trivial
            go_wp2_with (first
              | (at_builtin; have _t := s0; clear s0; refine wpList_apS wA rfl _ _ 24 82 i0 (.agg #[.int .i64 0, .int .i64 0]) 2 16 Try.underlying24 hi hz0 hz1 hz2 rfl (by decide) rfl (.slice q1 m1 d1) m1 (flG (giF G1) m1) rfl hA6.O.own ⟨w6.heap.size, 0, none⟩ 1 1 [.int .i64 x, .int .i64 (n : Int)] rfl rfl bA.newsA (by intro u hu; simp only [List.mem_cons, List.not_mem_nil, or_false] at hu; rcases hu with rfl | rfl <;> rfl) (by decide) (by unfold maxLen; omega) (by omega) ?_; intro gx cx w8 hor u8 hO8; have n78 := hA6.b7.keep u8 (fun e => own_ty hA6.O.own hA6.b7 (by decide) e.symm); have s1 : True := trivial)
              | (have _t := s1; clear s1; refine wpList_stC _ rfl _ _ _ rfl g7 8 44 _ #[.int .i64 id, .string nm, .slice a n c, .int .i64 mo, .int .i64 bu, .int .i64 st, .bool fi, .int .i64 at', .slice (some ⟨gx, 0, none⟩) (m1 + 1) cx, .int .i64 ti, .int .i64 pa, .int .i64 tr, .int .i64 li] (.slice (some ⟨gx, 0, none⟩) (m1 + 1) cx) rfl rfl n78 (stc_slG _ _ _ _ _) (by show 8 < 13; decide) rfl ?_; intro w9 b79 u9))
            have h9 := hA6.push hor u8 hO8 u9 b79
            try simp only [Exit.inBlock, Exit.then]
            refine HK4.out _ _ ?_
            clear HK4
            go_wp2
            go_roundw
            case rel => exact ⟨j + 1, _, _, _, _, by omega, by go_num, h9, by omega, by show _ = _; rw [HS.out, HG.out, agP_in (by have := HL1.out; omega) HY.out (.inr HXY.out)]⟩
            case measure => simp [intOf] <;> omega
          · have HXY : Hid _ := hxy
            refine wp_seq_k fun K7 hK7 => ?_
            have HK7 : Hid _ := hK7
            clear hK7
            go_wp2
            refine HK7.out _ _ ?_
            clear HK7
            refine wp_cond_false (show Value.bool (y == 0) = Value.bool false by rw [beq_eq_false_iff_ne.2 hy0]) ?_
            refine wp_skip ?_
            try simp only [Exit.inBlock, Exit.then]
            refine HK4.out _ _ ?_
            clear HK4
            go_wp2
            go_roundw
            case rel => exact ⟨j + 1, _, _, _, _, by omega, by go_num, h6, by omega, by show _ = _; rw [HS.out, HG.out, agP_no2 HY.out (fun h9 => hy0 h9.2) HXY.out]⟩
            case measure => simp [intOf] <;> omega
      · have lm : ¬ (m1 : Int) < 1000 := by omega
        go_wp2
        try simp only [Exit.inBlock, Exit.then]
        refine HK1.out _ _ ?_
        clear HK1
        refine rr_t35 P wB wr g3 g4 g7 kd nid nm2 si su at2 pa2 pn pc ga gm gd o co id nm mo bu st fi at' ti pa tr li a n c L q1 m1 d1 G1 h1 ?_
        intro e w' h9
        refine HP.out e w' ?_
        rw [agN_stop n G F2 j (by rw [← HG.out, HL1.out]; exact hlm) gm (by omega), ← HG.out]
        exact h9
    · obtain rfl : j = gm := by omega
      have lj : ¬ (j : Int) < (j : Int) := by omega
      go_wp2
      try simp only [Exit.inBlock, Exit.then]
      refine HK1.out _ _ ?_
      clear HK1
      refine rr_t35 P wB wr g3 g4 g7 kd nid nm2 si su at2 pa2 pn pc ga j gd o co id nm mo bu st fi at' ti pa tr li a n c L q1 m1 d1 G1 h1 ?_
      intro e w' h9
      refine HP.out e w' ?_
      rw [← HG.out]
      exact h9
end
end Go.Proofs.Ytnimehkfnpepfaa
