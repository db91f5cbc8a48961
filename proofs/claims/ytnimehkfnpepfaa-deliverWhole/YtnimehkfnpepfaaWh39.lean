import Derived.Test.YtnimehkfnpepfaaWh38
import Derived.Test.YtnimehkfnpepfaaWh34
namespace Go.Proofs.Ytnimehkfnpepfaa
open Go.RowKit
set_option maxRecDepth 100000
set_option linter.unusedVariables false
set_option linter.unusedSimpArgs false

section
/-- boxes of notes and of takers lie as they lay -/
def KpY (w w' : World) : Prop := (∀ g cs, BxS w g 27 cs → BxS w' g 27 cs) ∧ KpK w w'
theorem KpY.none {w w' : World} (u : w.grownBy w' none) : KpY w w' := ⟨fun g cs hb => hb.keep u (by simp), KpK.none u⟩
theorem KpY.trans {u v w : World} (h : KpY u v) (k : KpY v w) : KpY u w := ⟨fun g cs hb => k.1 g cs (h.1 g cs hb), h.2.trans k.2⟩
theorem KpY.bx {w w' : World} {g : Nat} {t : TypeId} {cs : Array Value} (b : BxS w g t cs) (hn : 27 ≠ t) (ht : 48 ≠ t) (u : w.grownBy w' (some g)) : KpY w w' := ⟨fun g9 cs9 hb => hb.keep u (fun e => BxS.apart hb b hn (Option.some.inj e)), KpK.bx b ht u⟩
theorem KpY.an {w w' : World} {lo : Nat} {a : Option Addr} {n c : Nat} {L : List Nat} (h : Ans w lo a n c L) (u : w.grownBy w' (Value.slice a n c).ownBlock) : KpY w w' :=
  ⟨fun g9 cs9 hb => hb.keep u (fun e => own_ty h.own hb (by decide) e.symm), fun g9 cs9 hb => hb.keep u (fun e => own_ty h.own hb (by decide) e.symm)⟩
/-- the file in new or grown memory -/
theorem TKW.newA {wB w w' : World} {gw : Nat} {id : Int} {kn : Bool} {nm : ByteArray} {si : Int} {en : Bool} {la su : Int} {st ti pa tr li : Int} {a : Option Addr} {n c : Nat} {L : List Nat} {q : Option Addr} {m d : Nat} {G : List (Int × Int)} {na : Option Addr} {nn nc : Nat} {xs : List Nx} {w1 : World} (h : TKW wB w gw id kn nm si en la su st ti pa tr li a n c L q m d G na nn nc xs) (u : w.grownBy w1 (Value.slice a n c).ownBlock) {a' : Option Addr} {n' c' : Nat} {L' : List Nat} (hA : Ans w1 wB.heap.size a' n' c' L') (hs : ∀ z, (Value.slice a' n' c').ownBlock = some z → (Value.slice a n c).ownBlock = some z ∨ w.heap.size ≤ z) (u2 : w1.grownBy w' (some gw)) (b2 : BxS w' gw 112 #[.int .i64 id, .bool kn, .string nm, .int .i64 si, .bool en, .int .i64 la, .int .i64 su, .slice q m d, .slice a' n' c', .int .i64 st, .int .i64 ti, .int .i64 pa, .int .i64 tr, .int .i64 li, .slice na nn nc]) : TKW wB w' gw id kn nm si en la su st ti pa tr li a' n' c' L' q m d G na nn nc xs := by
  have b1 := h.bx.keep u (fun e => own_ty h.A.own h.bx (by decide) e.symm)
  have t1 : ∀ z, (Value.slice a n c).ownBlock = some z → ∃ cs, BxS w z 5 cs := fun z e => own_bxS h.A.own e
  refine ⟨b2, hA.kRR u2 (fun z e e2 => by have e := Option.some.inj e; subst e; exact own_ty hA.own b1 (by decide) e2), (h.O.kR u (fun z e => by obtain ⟨cs, hb⟩ := t1 z e; exact h.O.neB hb (by decide))).bx b1 (by decide) u2, (h.N.kR u (fun z e => h.sA z e)).bx b1 (by decide) (by decide) (by decide) u2, h.gl, fun z e e2 => ?_, h.sO, grown_far (grown_far h.g u h.A.new) u2 (fun z e => by have e := Option.some.inj e; have := h.gl; omega)⟩
  rcases hs z e with e3 | e3
  · exact h.sA z e3 e2
  · have := h.N.lt e2; omega
/-- the file is written over -/
theorem TKW.cpA {wB w w' : World} {gw : Nat} {id : Int} {kn : Bool} {nm : ByteArray} {si : Int} {en : Bool} {la su : Int} {st ti pa tr li : Int} {n c : Nat} {L : List Nat} {q : Option Addr} {m d : Nat} {G : List (Int × Int)} {na : Option Addr} {nn nc : Nat} {xs : List Nx} {g : Nat} (h : TKW wB w gw id kn nm si en la su st ti pa tr li (some ⟨g, 0, none⟩) n c L q m d G na nn nc xs) (u : w.grownBy w' (some g)) {L' : List Nat} (hA : Ans w' wB.heap.size (some ⟨g, 0, none⟩) n c L') : TKW wB w' gw id kn nm si en la su st ti pa tr li (some ⟨g, 0, none⟩) n c L' q m d G na nn nc xs := by
  have t1 : ∀ z, some g = some z → ∃ cs, BxS w z 5 cs := fun z e => own_bxS h.A.own e
  exact ⟨h.bx.keep u (fun e => own_ty h.A.own h.bx (by decide) e.symm), hA, h.O.kR u (fun z e => by obtain ⟨cs, hb⟩ := t1 z e; exact h.O.neB hb (by decide)), h.N.kR u (fun z e => h.sA z e), h.gl, h.sA, h.sO, grown_far h.g u (fun z e => h.A.new z e)⟩
/-- other spans -/
theorem TKW.newO {wB w w' : World} {gw : Nat} {id : Int} {kn : Bool} {nm : ByteArray} {si : Int} {en : Bool} {la su : Int} {st ti pa tr li : Int} {a : Option Addr} {n c : Nat} {L : List Nat} {q : Option Addr} {m d : Nat} {G : List (Int × Int)} {na : Option Addr} {nn nc : Nat} {xs : List Nx} {w1 : World} (h : TKW wB w gw id kn nm si en la su st ti pa tr li a n c L q m d G na nn nc xs) (y : w.grownBy w1 none) {q' : Option Addr} {m' d' : Nat} {G' : List (Int × Int)} (hO : OwGi w1 w.heap.size q' m' d' G') (u2 : w1.grownBy w' (some gw)) (b2 : BxS w' gw 112 #[.int .i64 id, .bool kn, .string nm, .int .i64 si, .bool en, .int .i64 la, .int .i64 su, .slice q' m' d', .slice a n c, .int .i64 st, .int .i64 ti, .int .i64 pa, .int .i64 tr, .int .i64 li, .slice na nn nc]) : TKW wB w' gw id kn nm si en la su st ti pa tr li a n c L q' m' d' G' na nn nc xs := by
  have h1 := h.keepN y
  refine ⟨b2, h1.A.kRR u2 (fun z e e2 => by have e := Option.some.inj e; subst e; exact own_ty h1.A.own h1.bx (by decide) e2), (hO.bx h1.bx (by decide) u2).wide h.g.size, h1.N.bx h1.bx (by decide) (by decide) (by decide) u2, h.gl, h.sA, fun z e e2 => ?_, grown_far h1.g u2 (fun z e => by have e := Option.some.inj e; have := h.gl; omega)⟩
  have h3 := hO.new z e
  have h4 := h.N.lt e2
  omega

set_option maxHeartbeats 16000000 in
theorem ly_t8 {u1 u2 u3 u4 u5 u7 u8 u9 u10 u11 u12 u13 u14 u15 u16 u17 u18 u19 u20 u21 u22 u23 u24 u25 u26 u27 u28 u29 u30 u31 u32 u33 u34 u35 u36 u37 u38 u39 u40 u41 u42 u43 u44 u45 u46 u47 u48 u49 u50 u51 u52 u53 u54 u55 u56 u57 u58 u59 u60 u61 u62 u63 u64 u65 u66 u67 u68 u69 u70 u71 u72 u73 u74 u75 u76 u77 u78 u79 u80 u81 u82 u83 : Value} (P : Ending → World → Prop) (wB w : World) (gw : Nat) (id : Int) (kn : Bool) (nm : ByteArray) (si : Int) (en : Bool) (la su : Int) (st ti pa tr li : Int) (a : Option Addr) (n c : Nat) (L : List Nat) (q : Option Addr) (m d : Nat) (G : List (Int × Int)) (na : Option Addr) (nn nc : Nat) (xs : List Nx) (h : TKW wB w gw id kn nm si en la su st ti pa tr li a n c L q m d G na nn nc xs) (g6 x y : Nat) (b6 : BxS w g6 82 #[.int .i64 (x : Int), .int .i64 (y : Int)]) (hm : m ≤ 65536)
    (hP : ∀ w' q' d', TKW wB w' gw id kn nm si en la su st ti pa tr li a n c L q' (wiL (giF G) (x : Int) (y : Int) m).length d' (wiL (giF G) (x : Int) (y : Int) m) na nn nc xs → KpY w w' → P (.returned (.tuple #[])) w') :
    Code.wp Try.prog (tailR 8 (Try.f122.body.getD .skip)) (bodyPost Try.prog Try.f122 P) (Act.mk (List.toArray ((.pointer (some ⟨gw, 0, none⟩)) :: u1 :: u2 :: u3 :: u4 :: u5 :: (.pointer (some ⟨g6, 0, none⟩)) :: u7 :: u8 :: u9 :: u10 :: u11 :: u12 :: u13 :: u14 :: u15 :: u16 :: u17 :: u18 :: u19 :: u20 :: u21 :: u22 :: u23 :: u24 :: u25 :: u26 :: u27 :: u28 :: u29 :: u30 :: u31 :: u32 :: u33 :: u34 :: u35 :: u36 :: u37 :: u38 :: u39 :: u40 :: u41 :: u42 :: u43 :: u44 :: u45 :: u46 :: u47 :: u48 :: u49 :: u50 :: u51 :: u52 :: u53 :: u54 :: u55 :: u56 :: u57 :: u58 :: u59 :: u60 :: u61 :: u62 :: u63 :: u64 :: u65 :: u66 :: u67 :: u68 :: u69 :: u70 :: u71 :: u72 :: u73 :: u74 :: u75 :: u76 :: u77 :: u78 :: u79 :: u80 :: u81 :: u82 :: u83 :: [])) []) w := by
  conv => enter [2]; whnf
  have HP : Hid _ := hP
  clear hP
  have i2 := Try.info_sp
  have un2 := Try.underlying82
  have Gd := grown_drew w none
  have hd := h.keepN Gd
  have SS : BxS w.drew gw 112 #[.int .i64 id, .bool kn, .string nm, .int .i64 si, .bool en, .int .i64 la, .int .i64 su, .slice q m d, .slice a n c, .int .i64 st, .int .i64 ti, .int .i64 pa, .int .i64 tr, .int .i64 li, .slice na nn nc] ∧ BxS w.drew g6 82 #[.int .i64 (x : Int), .int .i64 (y : Int)] := ⟨hd.bx, b6.keep Gd (by simp)⟩
  refine wp_regionL (fun wz => BxS wz gw 112 #[.int .i64 id, .bool kn, .string nm, .int .i64 si, .bool en, .int .i64 la, .int .i64 su, .slice q m d, .slice a n c, .int .i64 st, .int .i64 ti, .int .i64 pa, .int .i64 tr, .int .i64 li, .slice na nn nc] ∧ BxS wz g6 82 #[.int .i64 (x : Int), .int .i64 (y : Int)]) [11] #[false, false, false, false, false, false, false, false, false, false, false, false] rfl (by kernel_rfl) ?_
  refine wpAnyZ_take [11] 0 (.pointer (some ⟨gw, 0, none⟩)) rfl (by kernel_rfl) (fun _ _ _ h => h) SS rfl (by intro wz hz; go_simp) ?_
  try simp only [zc1, zc2, zc3, Act.put, zc4, zc5, zc6]
  refine wpAnyZ_take [11] 1 (.pointer (some ⟨gw, 0, none⟩)) rfl (by kernel_rfl) (fun _ _ _ h => h) SS rfl (by intro wz hz; go_simp) ?_
  try simp only [zc1, zc2, zc3, Act.put, zc4, zc5, zc6]
  refine wpAnyZ_take [11] 2 (.pointer (some ⟨gw, 0, none⟩)) rfl (by kernel_rfl) (fun _ _ _ h => h) SS rfl (by intro wz hz; go_simp) ?_
  try simp only [zc1, zc2, zc3, Act.put, zc4, zc5, zc6]
  refine wpAnyZ_take [11] 3 (.pointer (some ⟨gw, 0, none⟩)) rfl (by kernel_rfl) (fun _ _ _ h => h) SS rfl (by intro wz hz; go_simp) ?_
  try simp only [zc1, zc2, zc3, Act.put, zc4, zc5, zc6]
  refine wpAnyZ_take [11] 4 (.pointer (some ⟨gw, 7, none⟩)) rfl (by kernel_rfl) (fun _ _ _ h => h) SS rfl (by intro wz hz; go_simp) ?_
  try simp only [zc1, zc2, zc3, Act.put, zc4, zc5, zc6]
  refine wpAnyZ_take [11] 5 (.slice q m d) rfl (by kernel_rfl) (fun _ _ _ h => h) SS rfl (by rintro wz ⟨hz, hz6⟩; have z : wz.cell? ⟨gw, 7, none⟩ = some (.slice q m d) := hz.cell 7 (by show 7 < 15; decide); go_simp) ?_
  try simp only [zc1, zc2, zc3, Act.put, zc4, zc5, zc6]
  refine wpAnyZ_take [11] 6 (.agg #[.int .i64 (x : Int), .int .i64 (y : Int)]) rfl (by kernel_rfl) (fun _ _ _ h => h) SS rfl (by rintro wz ⟨hz, hz6⟩; obtain ⟨z0, z1⟩ := hz6.cell2; go_simp) ?_
  try simp only [zc1, zc2, zc3, Act.put, zc4, zc5, zc6]
  generalize w.drew = w2 at *
  refine wpAnyZ_oneB 7 rfl (by kernel_rfl) (fun KK hKK => ?_)
  go_simp
  go_at_call 126
  refine (with_any q m d (giF G) (x : Int) (y : Int) w2 hd.O.rd (by omega)).mono ?_
  rintro e w3 ⟨q3, d3, rfl, hO3, y3⟩
  dsimp only
  have S3 : BxS w3 gw 112 #[.int .i64 id, .bool kn, .string nm, .int .i64 si, .bool en, .int .i64 la, .int .i64 su, .slice q m d, .slice a n c, .int .i64 st, .int .i64 ti, .int .i64 pa, .int .i64 tr, .int .i64 li, .slice na nn nc] ∧ BxS w3 g6 82 #[.int .i64 (x : Int), .int .i64 (y : Int)] := ⟨SS.1.keep y3 (by simp), SS.2.keep y3 (by simp)⟩
  refine hKK _ _ (fun _ => S3) ?_
  try simp only [zc1, zc2, zc3, Act.put, zc4, zc5, zc6]
  generalize wiL (giF G) (x : Int) (y : Int) m = X at *
  refine wpAnyZ_oneB 8 rfl (by kernel_rfl) (fun KK hKK => ?_)
  go_simp
  refine hKK _ _ (fun _ => S3) ?_
  try simp only [zc1, zc2, zc3, Act.put, zc4, zc5, zc6]
  refine wpAnyZ_oneB 9 rfl (by kernel_rfl) (fun KK hKK => ?_)
  go_simp
  refine hKK _ _ (fun _ => S3) ?_
  try simp only [zc1, zc2, zc3, Act.put, zc4, zc5, zc6]
  refine wpAnyZ_oneB 10 rfl (by kernel_rfl) (fun KK hKK => ?_)
  go_simp
  refine hKK _ _ (fun _ => S3) ?_
  try simp only [zc1, zc2, zc3, Act.put, zc4, zc5, zc6]
  refine wpAnyZ_oneB 11 rfl (by kernel_rfl) (fun KK hKK => ?_)
  refine step_stCd _ rfl _ _ _ rfl gw 7 112 _ #[.int .i64 id, .bool kn, .string nm, .int .i64 si, .bool en, .int .i64 la, .int .i64 su, .slice q3 X.length d3, .slice a n c, .int .i64 st, .int .i64 ti, .int .i64 pa, .int .i64 tr, .int .i64 li, .slice na nn nc] (.slice q3 X.length d3) rfl rfl S3.1 (fun w' h1 h2 => stc_slG _ _ _ _ _ _ h1 h2) (by show 7 < 15; decide) rfl ?_
  intro w4 b4 u4
  refine hKK _ _ (fun h => absurd (by decide) h) ?_
  try simp only [zc1, zc2, zc3, Act.put, zc4, zc5, zc6]
  refine wpAnyZ_doneB (by kernel_rfl) ?_ _
  first | go_end0 | refine bodyPost_ret (results_none rfl _ _ _) rfl ?_
  exact HP.out w4 q3 d3 (hd.newO y3 hO3 u4 b4) (((KpY.none Gd).trans (KpY.none y3)).trans (KpY.bx S3.1 (by decide) (by decide) u4))
end

section
set_option maxHeartbeats 32000000 in
theorem ly_t3 {u3 u4 u5 u7 u8 u9 u10 u11 u12 u13 u14 u15 u16 u17 u18 u19 u20 u21 u22 u23 u24 u25 u26 u27 u28 u29 u30 u31 u32 u33 u34 u35 u36 u37 u38 u39 u40 u41 u42 u43 u44 u45 u46 u47 u48 u49 u50 u51 u52 u53 u54 u55 u56 u57 u58 u59 u60 u61 u62 u63 u64 u65 u66 u67 u68 u69 u70 u71 u72 u73 u74 u75 u76 u77 u78 u79 u80 u81 u82 u83 : Value} (P : Ending → World → Prop) (wB w : World) (gw : Nat) (id : Int) (kn : Bool) (nm : ByteArray) (si : Int) (en : Bool) (la su : Int) (st ti pa tr li : Int) (a : Option Addr) (n c : Nat) (L : List Nat) (q : Option Addr) (m d : Nat) (G : List (Int × Int)) (na : Option Addr) (nn nc : Nat) (xs : List Nx) (h : TKW wB w gw id kn nm si en la su st ti pa tr li a n c L q m d G na nn nc xs) (g6 x y : Nat) (b6 : BxS w g6 82 #[.int .i64 (x : Int), .int .i64 (y : Int)]) (hm : m ≤ 65536) (pa2 : Option Addr) (pn pc : Nat) (D : List Nat) (hD : Rd wB pa2 pn pc D) (hy : y = x + pn) (hyn : y ≤ n) (hn : n ≤ 65536)
    (hP : ∀ w' q' d', TKW wB w' gw id kn nm si en la su st ti pa tr li a n c (cpL L D x (uqF (giF G) (x : Int) (y : Int) m) (uqF (giF G) (x : Int) (y : Int) m).length) q' (wiL (giF G) (x : Int) (y : Int) m).length d' (wiL (giF G) (x : Int) (y : Int) m) na nn nc xs → KpY w w' → P (.returned (.tuple #[])) w') :
    Code.wp Try.prog (tailR 3 (Try.f122.body.getD .skip)) (bodyPost Try.prog Try.f122 P) (Act.mk (List.toArray ((.pointer (some ⟨gw, 0, none⟩)) :: (.int .i64 (x : Int)) :: (.slice pa2 pn pc) :: u3 :: u4 :: u5 :: (.pointer (some ⟨g6, 0, none⟩)) :: u7 :: u8 :: u9 :: u10 :: u11 :: u12 :: u13 :: u14 :: u15 :: u16 :: u17 :: u18 :: u19 :: u20 :: u21 :: u22 :: u23 :: u24 :: u25 :: u26 :: u27 :: u28 :: u29 :: u30 :: u31 :: u32 :: u33 :: u34 :: u35 :: u36 :: u37 :: u38 :: u39 :: u40 :: u41 :: u42 :: u43 :: u44 :: u45 :: u46 :: u47 :: u48 :: u49 :: u50 :: u51 :: u52 :: u53 :: u54 :: u55 :: u56 :: u57 :: u58 :: u59 :: u60 :: u61 :: u62 :: u63 :: u64 :: u65 :: u66 :: u67 :: u68 :: u69 :: u70 :: u71 :: u72 :: u73 :: u74 :: u75 :: u76 :: u77 :: u78 :: u79 :: u80 :: u81 :: u82 :: u83 :: [])) []) w := by
  conv => enter [2]; whnf
  have HP : Hid _ := hP
  clear hP
  have i2 := Try.info_sp
  have u2 := Try.underlying82
  have hy1 : y ≤ x + pn := by omega
  have hy2 : x + pn ≤ y := by omega
  clear hy
  have hDl := hD.len
  have HDL : Hid _ := hDl
  clear hDl
  have hul : (uqF (giF G) (x : Int) (y : Int) m).length ≤ m + 1 := uqF_len
  have hin : ∀ p, p ∈ (uqF (giF G) (x : Int) (y : Int) m) → (x : Int) ≤ p.1 ∧ p.1 < p.2 ∧ p.2 ≤ (y : Int) := fun p hp => unF_in p hp
  refine wp_seq_k fun K1 hK1 => ?_
  have HK1 : Hid _ := hK1
  clear hK1
  refine wp_seq_k fun K2 hK2 => ?_
  have HK2 : Hid _ := hK2
  clear hK2
  have Gd := grown_drew w none
  have hd := h.keepN Gd
  have SS : BxS w.drew gw 112 #[.int .i64 id, .bool kn, .string nm, .int .i64 si, .bool en, .int .i64 la, .int .i64 su, .slice q m d, .slice a n c, .int .i64 st, .int .i64 ti, .int .i64 pa, .int .i64 tr, .int .i64 li, .slice na nn nc] ∧ BxS w.drew g6 82 #[.int .i64 (x : Int), .int .i64 (y : Int)] := ⟨hd.bx, b6.keep Gd (by simp)⟩
  refine wp_regionL (fun wz => BxS wz gw 112 #[.int .i64 id, .bool kn, .string nm, .int .i64 si, .bool en, .int .i64 la, .int .i64 su, .slice q m d, .slice a n c, .int .i64 st, .int .i64 ti, .int .i64 pa, .int .i64 tr, .int .i64 li, .slice na nn nc] ∧ BxS wz g6 82 #[.int .i64 (x : Int), .int .i64 (y : Int)]) [] #[false, false, false, false, false, false, false, false, false] rfl (by kernel_rfl) ?_
  refine wpAnyZ_take [] 0 (.pointer (some ⟨gw, 0, none⟩)) rfl (by kernel_rfl) (fun _ _ _ h => h) SS rfl (by intro wz hz; go_simp) ?_
  try simp only [zc1, zc2, zc3, Act.put, zc4, zc5, zc6]
  refine wpAnyZ_take [] 1 (.pointer (some ⟨gw, 0, none⟩)) rfl (by kernel_rfl) (fun _ _ _ h => h) SS rfl (by intro wz hz; go_simp) ?_
  try simp only [zc1, zc2, zc3, Act.put, zc4, zc5, zc6]
  refine wpAnyZ_take [] 2 (.pointer (some ⟨gw, 0, none⟩)) rfl (by kernel_rfl) (fun _ _ _ h => h) SS rfl (by intro wz hz; go_simp) ?_
  try simp only [zc1, zc2, zc3, Act.put, zc4, zc5, zc6]
  refine wpAnyZ_take [] 3 (.pointer (some ⟨gw, 7, none⟩)) rfl (by kernel_rfl) (fun _ _ _ h => h) SS rfl (by intro wz hz; go_simp) ?_
  try simp only [zc1, zc2, zc3, Act.put, zc4, zc5, zc6]
  refine wpAnyZ_take [] 4 (.slice q m d) rfl (by kernel_rfl) (fun _ _ _ h => h) SS rfl (by rintro wz ⟨hz, hz6⟩; have z : wz.cell? ⟨gw, 7, none⟩ = some (.slice q m d) := hz.cell 7 (by show 7 < 15; decide); go_simp) ?_
  try simp only [zc1, zc2, zc3, Act.put, zc4, zc5, zc6]
  refine wpAnyZ_take [] 5 (.agg #[.int .i64 (x : Int), .int .i64 (y : Int)]) rfl (by kernel_rfl) (fun _ _ _ h => h) SS rfl (by rintro wz ⟨hz, hz6⟩; obtain ⟨z0, z1⟩ := hz6.cell2; go_simp) ?_
  try simp only [zc1, zc2, zc3, Act.put, zc4, zc5, zc6]
  refine wpAnyZ_take [] 8 (.int .i64 0) rfl (by kernel_rfl) (fun _ _ _ h => h) SS rfl (by intro wz hz; go_simp) ?_
  try simp only [zc1, zc2, zc3, Act.put, zc4, zc5, zc6]
  generalize w.drew = w2 at *
  refine wpAnyZ_oneB 6 rfl (by kernel_rfl) (fun KK hKK => ?_)
  go_simp
  go_at_call 119
  refine (untold_any q m d (giF G) (x : Int) (y : Int) w2 hd.O.rd (by omega)).mono ?_
  rintro e w3 ⟨q3, d3, rfl, hO3, y3⟩
  dsimp only
  have S3 : BxS w3 gw 112 #[.int .i64 id, .bool kn, .string nm, .int .i64 si, .bool en, .int .i64 la, .int .i64 su, .slice q m d, .slice a n c, .int .i64 st, .int .i64 ti, .int .i64 pa, .int .i64 tr, .int .i64 li, .slice na nn nc] ∧ BxS w3 g6 82 #[.int .i64 (x : Int), .int .i64 (y : Int)] := ⟨SS.1.keep y3 (by simp), SS.2.keep y3 (by simp)⟩
  refine hKK _ _ (fun _ => S3) ?_
  try simp only [zc1, zc2, zc3, Act.put, zc4, zc5, zc6]
  have h3 := hd.keepN y3
  have K3 : KpY w w3 := (KpY.none Gd).trans (KpY.none y3)
  have HIN : Hid _ := hin
  clear hin
  generalize (uqF (giF G) (x : Int) (y : Int) m) = R at *
  refine wpAnyZ_take [] 7 (.int .i64 (R.length : Int)) rfl (by kernel_rfl) (fun _ _ _ h => h) S3 rfl (by intro wz hz; go_simp) ?_
  try simp only [zc1, zc2, zc3, Act.put, zc4, zc5, zc6]
  refine wpAnyZ_doneB (by kernel_rfl) ?_ _
  refine HK2.out _ _ ?_
  clear HK2
  have hO3 : OwGi w3 0 q3 R.length d3 R := hO3.wide (Nat.zero_le _)
  have b63 := S3.2
  clear S3 SS Gd hd y3 h b6
  go_wp2
  go_loopw [51] (fun iv wr => ∃ (k : Nat), k ≤ R.length ∧ iv = .int .i64 (k : Int) ∧ TKW wB wr gw id kn nm si en la su st ti pa tr li a n c (cpL L D x R k) q m d G na nn nc xs ∧ BxS wr g6 82 #[.int .i64 (x : Int), .int .i64 (y : Int)] ∧ OwGi wr 0 q3 R.length d3 R ∧ KpY w wr) (fun iv _ => R.length - (intOf iv).toNat)
  case atStart => exact ⟨0, Nat.zero_le _, rfl, h3, b63, hO3, K3⟩
  case round =>
    obtain ⟨k, hk, rfl, hW, b6r, hOr, Kr⟩ := hrel
    by_cases hlt : k < R.length
    · have lk : (k : Int) < (R.length : Int) := by omega
      obtain ⟨gb, off, rfl, hb, hc⟩ := hOr.rd.at' (by omega)
      obtain ⟨p0, p1⟩ := hc k hlt
      have HS : Hid (cpL L D x R (k + 1) = splN (cpL L D x R k) (giF R k).1.toNat ((D.drop ((giF R k).1.toNat - x)).take ((giF R k).2.toNat - (giF R k).1.toNat))) := rfl
      have hin := HIN.out _ (List.getElem_mem hlt)
      rw [← giF_at hlt] at hin
      obtain ⟨f0, f1, hf⟩ : ∃ f0 f1, giF R k = (f0, f1) := ⟨_, _, rfl⟩
      rw [hf] at p0 p1 HS hin
      dsimp only at p0 p1 HS hin
      obtain ⟨r0, rfl⟩ : ∃ r0 : Nat, f0 = (r0 : Int) := ⟨f0.toNat, by omega⟩
      obtain ⟨r1, rfl⟩ : ∃ r1 : Nat, f1 = (r1 : Int) := ⟨f1.toNat, by omega⟩
      have e0 : ((r0 : Int)).toNat = r0 := by omega
      have e1 : ((r1 : Int)).toNat = r1 := by omega
      rw [e0, e1] at HS
      have q0 : x ≤ r0 := by omega
      have q1 : r0 < r1 := by omega
      have q2 : r1 ≤ y := by omega
      have hcm := hW.A.max
      obtain ⟨ga, rfl⟩ : ∃ ga, a = some ⟨ga, 0, none⟩ := by
        rcases hW.A.cases with ⟨h1, h2, h3⟩ | ⟨g, h1, _⟩
        · omega
        · exact ⟨g, h1⟩
      have hDr := hD.keep hW.g
      obtain ⟨pb, po, rfl, hpb, hpc⟩ := hDr.at' (by omega)
      have hple := hDr.le
      have HW : Hid _ := hW
      have HOR : Hid _ := hOr
      clear hin hf hc e0 e1 hpc hpb
      obtain ⟨M, hM⟩ : ∃ M, cpL L D x R k = M := ⟨_, rfl⟩
      rw [hM] at HS HW
      have hMl := HW.out.A.len
      clear hM hW hOr
      have l6 := b6r.lt
      refine wp_seq_k fun K2 hK2 => ?_
      have HK2 : Hid _ := hK2
      clear hK2
      go_wp2
      refine HK2.out _ _ ?_
      clear HK2
      refine wp_seq_k fun K2 hK2 => ?_
      have HK2 : Hid _ := hK2
      clear hK2
      go_wp2
      refine HK2.out _ _ ?_
      clear HK2
      refine wp_seq_k fun K2 hK2 => ?_
      have HK2 : Hid _ := hK2
      clear hK2
      refine wp_block ?_
      refine wp_seq_k fun K3 hK3 => ?_
      have HK3 : Hid _ := hK3
      clear hK3
      have bn0 := BxS.new wr 82 #[.int .i64 0, .int .i64 0]
      have gn0 := World.grownBy_alloc wr (.cells #[.int .i64 0, .int .i64 0] 82) none
      generalize hw2 : wr.alloc (.cells #[.int .i64 0, .int .i64 0] 82) = w4 at bn0 gn0
      have s0 : True := trivial
      go_wp2_with (have _t := s0; clear s0; refine wpList_stX _ rfl _ (.tmp 8) (.tmp 54) rfl wr.heap.size _ _ rfl rfl bn0 i2 rfl (by simp [Value.oneCell']) ?_; intro w5 b85 u5)
      have G5 : wr.grownBy w5 none := grown_far gn0 u5 (fun z e => by have e := Option.some.inj e; omega)
      obtain ⟨g8, hg8⟩ : ∃ g8, wr.heap.size = g8 := ⟨_, rfl⟩
      rw [hg8] at b85 ⊢
      clear u5 bn0 gn0 hw2 p0 p1 hg8
      refine HK3.out _ _ ?_
      clear HK3
      have Gd := grown_drew w5 none
      have G6 := grown_trans G5 Gd
      have h6 := HW.out.keepN G6
      have hO6 := HOR.out.keep G6
      have b66 := b6r.keep G6 (by simp)
      have K6 := Kr.trans (KpY.none G6)
      have SS : BxS w5.drew gw 112 #[.int .i64 id, .bool kn, .string nm, .int .i64 si, .bool en, .int .i64 la, .int .i64 su, .slice q m d, .slice (some ⟨ga, 0, none⟩) n c, .int .i64 st, .int .i64 ti, .int .i64 pa, .int .i64 tr, .int .i64 li, .slice na nn nc] ∧ BxS w5.drew g8 82 #[.int .i64 (r0 : Int), .int .i64 (r1 : Int)] := ⟨h6.bx, b85.keep Gd (by simp)⟩
      refine wp_regionL (fun wz => BxS wz gw 112 #[.int .i64 id, .bool kn, .string nm, .int .i64 si, .bool en, .int .i64 la, .int .i64 su, .slice q m d, .slice (some ⟨ga, 0, none⟩) n c, .int .i64 st, .int .i64 ti, .int .i64 pa, .int .i64 tr, .int .i64 li, .slice na nn nc] ∧ BxS wz g8 82 #[.int .i64 (r0 : Int), .int .i64 (r1 : Int)]) [] #[false, false, false, false, false, false, false, false, false, false, false, false, false, false, false, false, false] rfl (by kernel_rfl) ?_
      generalize w5.drew = w6 at *
      refine wpAnyZ_take [] 0 (.pointer (some ⟨gw, 0, none⟩)) rfl (by kernel_rfl) (fun _ _ _ h => h) SS rfl (by intro wz hz; go_simp) ?_
      try simp only [zc1, zc2, zc3, Act.put, zc4, zc5, zc6]
      refine wpAnyZ_take [] 1 (.pointer (some ⟨gw, 0, none⟩)) rfl (by kernel_rfl) (fun _ _ _ h => h) SS rfl (by intro wz hz; go_simp) ?_
      try simp only [zc1, zc2, zc3, Act.put, zc4, zc5, zc6]
      refine wpAnyZ_take [] 2 (.pointer (some ⟨gw, 0, none⟩)) rfl (by kernel_rfl) (fun _ _ _ h => h) SS rfl (by intro wz hz; go_simp) ?_
      try simp only [zc1, zc2, zc3, Act.put, zc4, zc5, zc6]
      refine wpAnyZ_take [] 3 (.pointer (some ⟨gw, 8, none⟩)) rfl (by kernel_rfl) (fun _ _ _ h => h) SS rfl (by intro wz hz; go_simp) ?_
      try simp only [zc1, zc2, zc3, Act.put, zc4, zc5, zc6]
      refine wpAnyZ_take [] 4 (.slice (some ⟨ga, 0, none⟩) n c) rfl (by kernel_rfl) (fun _ _ _ h => h) SS rfl (by rintro wz ⟨hz, hz6⟩; have z : wz.cell? ⟨gw, 8, none⟩ = some (.slice (some ⟨ga, 0, none⟩) n c) := hz.cell 8 (by show 8 < 15; decide); go_simp) ?_
      try simp only [zc1, zc2, zc3, Act.put, zc4, zc5, zc6]
      refine wpAnyZ_take [] 5 (.pointer (some ⟨g8, 0, none⟩)) rfl (by kernel_rfl) (fun _ _ _ h => h) SS rfl (by intro wz hz; go_simp) ?_
      try simp only [zc1, zc2, zc3, Act.put, zc4, zc5, zc6]
      refine wpAnyZ_take [] 6 (.int .i64 (r0 : Int)) rfl (by kernel_rfl) (fun _ _ _ h => h) SS rfl (by rintro wz ⟨hz, hz6⟩; obtain ⟨z0, z1⟩ := hz6.cell2; go_simp) ?_
      try simp only [zc1, zc2, zc3, Act.put, zc4, zc5, zc6]
      refine wpAnyZ_take [] 7 (.pointer (some ⟨g8, 1, none⟩)) rfl (by kernel_rfl) (fun _ _ _ h => h) SS rfl (by intro wz hz; go_simp) ?_
      try simp only [zc1, zc2, zc3, Act.put, zc4, zc5, zc6]
      refine wpAnyZ_take [] 8 (.int .i64 (r1 : Int)) rfl (by kernel_rfl) (fun _ _ _ h => h) SS rfl (by rintro wz ⟨hz, hz6⟩; obtain ⟨z0, z1⟩ := hz6.cell2; go_simp) ?_
      try simp only [zc1, zc2, zc3, Act.put, zc4, zc5, zc6]
      have k1 : ¬ c = r0 := by omega
      have k2 : (r0 : Int) ≤ (r1 : Int) := by omega
      have k3 : (r1 : Int) ≤ (c : Int) := by omega
      have k4 : r0 ≤ r1 := by omega
      have k5 : r1 ≤ c := by omega
      refine wpAnyZ_take [] 9 (.slice (some ⟨ga, r0, none⟩) (r1 - r0) (c - r0)) rfl (by kernel_rfl) (fun _ _ _ h => h) SS rfl (by intro wz hz; go_simp) ?_
      try simp only [zc1, zc2, zc3, Act.put, zc4, zc5, zc6]
      clear k1 k2 k3 k4 k5
      refine wpAnyZ_take [] 10 (.slice (some ⟨pb, po, none⟩) pn pc) rfl (by kernel_rfl) (fun _ _ _ h => h) SS rfl (by intro wz hz; go_simp) ?_
      try simp only [zc1, zc2, zc3, Act.put, zc4, zc5, zc6]
      refine wpAnyZ_take [] 11 (.pointer (some ⟨g8, 0, none⟩)) rfl (by kernel_rfl) (fun _ _ _ h => h) SS rfl (by intro wz hz; go_simp) ?_
      try simp only [zc1, zc2, zc3, Act.put, zc4, zc5, zc6]
      refine wpAnyZ_take [] 12 (.int .i64 (r0 : Int)) rfl (by kernel_rfl) (fun _ _ _ h => h) SS rfl (by rintro wz ⟨hz, hz6⟩; obtain ⟨z0, z1⟩ := hz6.cell2; go_simp) ?_
      try simp only [zc1, zc2, zc3, Act.put, zc4, zc5, zc6]
      refine wpAnyZ_take [] 13 (.int .i64 (x : Int)) rfl (by kernel_rfl) (fun _ _ _ h => h) SS rfl (by intro wz hz; go_simp) ?_
      try simp only [zc1, zc2, zc3, Act.put, zc4, zc5, zc6]
      obtain ⟨j, hj⟩ : ∃ j, r0 - x = j := ⟨_, rfl⟩
      have hwj : IntKind.i64.wrap ((r0 : Int) - (x : Int)) = (j : Int) := by rw [show (r0 : Int) - (x : Int) = (j : Int) by omega]; exact wrap_i64_in _ (by omega) (by omega)
      refine wpAnyZ_take [] 14 (.int .i64 (j : Int)) rfl (by kernel_rfl) (fun _ _ _ h => h) SS rfl (by intro wz hz; go_simp) ?_
      try simp only [zc1, zc2, zc3, Act.put, zc4, zc5, zc6]
      clear hwj
      have k1 : ¬ pc = j := by omega
      have k2 : (j : Int) ≤ (pn : Int) := by omega
      have k3 : (pn : Int) ≤ (pc : Int) := by omega
      have k4 : j ≤ pn := by omega
      have k5 : pn ≤ pc := by omega
      refine wpAnyZ_take [] 15 (.slice (some ⟨pb, po + j, none⟩) (pn - j) (pc - j)) rfl (by kernel_rfl) (fun _ _ _ h => h) SS rfl (by intro wz hz; go_simp) ?_
      try simp only [zc1, zc2, zc3, Act.put, zc4, zc5, zc6]
      have hDj : Rd w6 (some ⟨pb, po + j, none⟩) (pn - j) (pc - j) (D.drop j) := by
        have := (hDr.keep G6).beh (k := j) (by omega)
        rw [if_neg k1] at this
        exact this
      clear k1 k2 k3 k4 k5
      refine wpAnyZ_oneB 16 rfl (by kernel_rfl) (fun KK hKK => ?_)
      refine step_of_listV rfl ?_
      refine wpList_cpA rfl _ _ rfl ga n c wB.heap.size M h6.A (some ⟨ga, r0, none⟩) (r1 - r0) (c - r0) rfl (some ⟨pb, po + j, none⟩) (pn - j) (pc - j) (D.drop j) rfl hDj r0 (r1 - r0) (by omega) (fun _ => rfl) (by omega) ?_
      intro w7 hA7 u7
      have h7 := h6.cpA u7 hA7
      have K7 := K6.trans (KpY.an h6.A u7)
      have S7 : BxS w7 gw 112 #[.int .i64 id, .bool kn, .string nm, .int .i64 si, .bool en, .int .i64 la, .int .i64 su, .slice q m d, .slice (some ⟨ga, 0, none⟩) n c, .int .i64 st, .int .i64 ti, .int .i64 pa, .int .i64 tr, .int .i64 li, .slice na nn nc] ∧ BxS w7 g8 82 #[.int .i64 (r0 : Int), .int .i64 (r1 : Int)] := ⟨h7.bx, SS.2.keep u7 (fun e => own_ty h6.A.own SS.2 (by decide) e.symm)⟩
      have b67 := b66.keep u7 (fun e => own_ty h6.A.own b66 (by decide) e.symm)
      have hO7 := hO6.kR u7 (fun z e => by obtain ⟨cs, hb9⟩ := own_bxS h6.A.own e; exact hO6.neB hb9 (by decide))
      show KK _ w7
      refine hKK _ _ (fun _ => S7) ?_
      try simp only [zc1, zc2, zc3, Act.put, zc4, zc5, zc6]
      refine wpAnyZ_doneB (by kernel_rfl) ?_ _
      try simp only [Exit.inBlock, Exit.then]
      refine HK2.out _ _ ?_
      clear HK2
      rw [hj] at HS
      rw [← HS.out] at h7
      go_wp2
      go_roundw
      case rel => exact ⟨k + 1, by omega, by go_num, h7, b67, hO7, K7⟩
      case measure => simp [intOf] <;> omega
    · obtain rfl : k = R.length := by omega
      have lk : ¬ (R.length : Int) < (R.length : Int) := by omega
      go_wp2
      try simp only [Exit.inBlock, Exit.then]
      refine HK1.out _ _ ?_
      clear HK1
      refine ly_t8 P wB wr gw id kn nm si en la su st ti pa tr li a n c (cpL L D x R R.length) q m d G na nn nc xs hW g6 x y b6r hm ?_
      intro w' q' d' h9 k9
      exact HP.out w' q' d' h9 (Kr.trans k9)
end
end Go.Proofs.Ytnimehkfnpepfaa
