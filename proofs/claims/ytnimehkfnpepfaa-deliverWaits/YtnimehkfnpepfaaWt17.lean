import Derived.Test.YtnimehkfnpepfaaWt16
import Derived.Test.YtnimehkfnpepfaaWt14
import Derived.Test.YtnimehkfnpepfaaWt13
import Derived.Test.YtnimehkfnpepfaaWt5
import Derived.Test.YtnimehkfnpepfaaWt4
import Derived.Test.YtnimehkfnpepfaaWt7
import Derived.Test.YtnimehkfnpepfaaWt2
import Derived.Test.YtnimehkfnpepfaaWt3
namespace Go.Proofs.Ytnimehkfnpepfaa
open Go.RowKit
set_option maxRecDepth 100000
set_option linter.unusedVariables false
set_option linter.unusedSimpArgs false

section
/-- an answer of the document's side -/
def RDk (w : World) (V : Tv) (T : List Nt) (E : Nat) (e : Ending) (w' : World) : Prop :=
  ∃ a c q d na nc xs, e = .returned (.tuple #[.agg (tkA V.id V.kn V.nm V.si V.en V.la V.su (.slice q V.G.length d) (.slice a V.L.length c) V.st V.ti V.pa V.tr V.li), .slice na T.length nc, .int .i64 (E : Nat)]) ∧ xs.map Nx.dt = T ∧ Rd w' a V.L.length c V.L ∧ RdG w' q V.G.length d (giF V.G) ∧ OwN w' w.heap.size na T.length nc xs ∧ w.grownBy w' none
/-- the document's taker at work -/
structure DTk (wB w : World) (g2 g5 : Nat) (V : Tv) (a : Option Addr) (c : Nat) (q : Option Addr) (d : Nat) : Prop where
  b5 : BxS w g5 48 #[.int .i64 V.id, .bool V.kn, .string V.nm, .int .i64 V.si, .bool V.en, .int .i64 V.la, .int .i64 V.su, .slice q V.G.length d, .slice a V.L.length c, .int .i64 V.st, .int .i64 V.ti, .int .i64 V.pa, .int .i64 V.tr, .int .i64 V.li]
  b2 : BxS w g2 48 #[.int .i64 0, .bool false, .string ⟨#[]⟩, .int .i64 0, .bool false, .int .i64 0, .int .i64 0, .slice none 0 0, .slice none 0 0, .int .i64 0, .int .i64 0, .int .i64 0, .int .i64 0, .int .i64 0]
  A : Ans w wB.heap.size a V.L.length c V.L
  O : OwGi w wB.heap.size q V.G.length d V.G
  l2 : wB.heap.size ≤ g2
  l5 : wB.heap.size ≤ g5
  ne : g2 ≠ g5
  g : wB.grownBy w none
theorem DTk.set {wB w w' : World} {g2 g5 : Nat} {V : Tv} {a : Option Addr} {c : Nat} {q : Option Addr} {d : Nat} (h : DTk wB w g2 g5 V a c q d) {st2 ti2 tr2 : Int} (u : w.grownBy w' (some g5)) (b : BxS w' g5 48 #[.int .i64 V.id, .bool V.kn, .string V.nm, .int .i64 V.si, .bool V.en, .int .i64 V.la, .int .i64 V.su, .slice q V.G.length d, .slice a V.L.length c, .int .i64 st2, .int .i64 ti2, .int .i64 V.pa, .int .i64 tr2, .int .i64 V.li]) : DTk wB w' g2 g5 { V with st := st2, ti := ti2, tr := tr2 } a c q d :=
  ⟨b, h.b2.keep u (fun e => h.ne (Option.some.inj e)), h.A.kRR u (fun z e e2 => by have e := Option.some.inj e; subst e; exact own_ty h.A.own h.b5 (by decide) e2), h.O.bx h.b5 (by decide) u, h.l2, h.l5, h.ne, grown_far h.g u (fun z e => by have e := Option.some.inj e; have := h.l5; omega)⟩
theorem DTk.keepN {wB w w' : World} {g2 g5 : Nat} {V : Tv} {a : Option Addr} {c : Nat} {q : Option Addr} {d : Nat} (h : DTk wB w g2 g5 V a c q d) (u : w.grownBy w' none) : DTk wB w' g2 g5 V a c q d :=
  ⟨h.b5.keep u (by simp), h.b2.keep u (by simp), h.A.keep u, h.O.keep u, h.l2, h.l5, h.ne, grown_trans h.g u⟩
theorem DTk.fin {wB w w' : World} {g2 g5 : Nat} {V : Tv} {a : Option Addr} {c : Nat} {q : Option Addr} {d : Nat} (h : DTk wB w g2 g5 V a c q d) (u : w.grownBy w' (some g2)) {na : Option Addr} {nc : Nat} {xs : List Nx} {T : List Nt} (hT : xs.map Nx.dt = T) (hN : OwN w wB.heap.size na T.length nc xs) : RDk wB V T 0 (.returned (.tuple #[.agg #[.int .i64 V.id, .bool V.kn, .string V.nm, .int .i64 V.si, .bool V.en, .int .i64 V.la, .int .i64 V.su, .slice q V.G.length d, .slice a V.L.length c, .int .i64 V.st, .int .i64 V.ti, .int .i64 V.pa, .int .i64 V.tr, .int .i64 V.li], .slice na T.length nc, .int .i64 0])) w' :=
  ⟨a, c, q, d, na, nc, xs, rfl, hT, (h.A.kRR u (fun z e e2 => by have e := Option.some.inj e; subst e; exact own_ty h.A.own h.b2 (by decide) e2)).rd, (h.O.bx h.b2 (by decide) u).rd, hN.bx h.b2 (by decide) (by decide) (by decide) u, grown_far h.g u (fun z e => by have e := Option.some.inj e; have := h.l2; omega)⟩
theorem DTk.fin2 {wB w w' : World} {g2 g5 : Nat} {V : Tv} {a : Option Addr} {c : Nat} {q : Option Addr} {d : Nat} (h : DTk wB w g2 g5 V a c q d) {w1 : World} (u : w.grownBy w1 (some g2)) (y : w1.grownBy w' none) {na : Option Addr} {nc : Nat} {xs : List Nx} {T : List Nt} (hT : xs.map Nx.dt = T) (hN : OwN w' wB.heap.size na T.length nc xs) : RDk wB V T 0 (.returned (.tuple #[.agg #[.int .i64 V.id, .bool V.kn, .string V.nm, .int .i64 V.si, .bool V.en, .int .i64 V.la, .int .i64 V.su, .slice q V.G.length d, .slice a V.L.length c, .int .i64 V.st, .int .i64 V.ti, .int .i64 V.pa, .int .i64 V.tr, .int .i64 V.li], .slice na T.length nc, .int .i64 0])) w' :=
  ⟨a, c, q, d, na, nc, xs, rfl, hT, ((h.A.kRR u (fun z e e2 => by have e := Option.some.inj e; subst e; exact own_ty h.A.own h.b2 (by decide) e2)).keep y).rd, ((h.O.bx h.b2 (by decide) u).keep y).rd, hN, grown_trans (grown_far h.g u (fun z e => by have e := Option.some.inj e; have := h.l2; omega)) y⟩

set_option maxHeartbeats 16000000 in
theorem wo_t21 {u0 u1 u3 u4 u6 u7 u8 u9 u10 u11 u12 u13 u14 u15 u16 u17 u18 u19 u20 u21 u22 u23 u24 u25 u26 u27 u28 u29 u30 u31 u32 u33 u34 u35 u36 u37 u38 u39 u40 u41 u42 u43 u44 u45 u46 u47 u48 u49 u50 u51 u52 u53 u54 u55 u56 u57 u58 u59 u60 u61 u62 u63 u64 u65 u66 u67 u68 u69 u70 u71 u72 u73 u74 u75 u76 u77 u78 u79 u80 u81 u82 : Value} (P : Ending → World → Prop) (wB w : World) (g2 g5 : Nat) (V : Tv) (a : Option Addr) (c : Nat) (q : Option Addr) (d : Nat) (h : DTk wB w g2 g5 V a c q d)
    (hP : ∀ e w', RDk wB V [] 0 e w' → P e w') :
    Code.wp Try.prog (tailR 21 (Try.f41.body.getD .skip)) (bodyPost Try.prog Try.f41 P) (Act.mk (List.toArray (u0 :: u1 :: (.pointer (some ⟨g2, 0, none⟩)) :: u3 :: u4 :: (.pointer (some ⟨g5, 0, none⟩)) :: u6 :: u7 :: u8 :: u9 :: u10 :: u11 :: u12 :: u13 :: u14 :: u15 :: u16 :: u17 :: u18 :: u19 :: u20 :: u21 :: u22 :: u23 :: u24 :: u25 :: u26 :: u27 :: u28 :: u29 :: u30 :: u31 :: u32 :: u33 :: u34 :: u35 :: u36 :: u37 :: u38 :: u39 :: u40 :: u41 :: u42 :: u43 :: u44 :: u45 :: u46 :: u47 :: u48 :: u49 :: u50 :: u51 :: u52 :: u53 :: u54 :: u55 :: u56 :: u57 :: u58 :: u59 :: u60 :: u61 :: u62 :: u63 :: u64 :: u65 :: u66 :: u67 :: u68 :: u69 :: u70 :: u71 :: u72 :: u73 :: u74 :: u75 :: u76 :: u77 :: u78 :: u79 :: u80 :: u81 :: u82 :: [])) []) w := by
  conv => enter [2]; whnf
  have HP : Hid _ := hP
  clear hP
  have i14 := Try.info_tk
  refine wp_seq_k fun K1 hK1 => ?_
  have HK1 : Hid _ := hK1
  clear hK1
  have b5 := h.b5
  have s0 : True := trivial
  go_wp2_with (first
    | (have _t := s0; clear s0; refine wpList_ldX _ rfl _ (.tmp 5) rfl g5 _ rfl b5 Try.underlying48 i14 ?_; have s1 : True := trivial)
    | (have _t := s1; clear s1; refine wpList_stX _ rfl _ (.tmp 2) (.tmp 82) rfl g2 _ _ rfl rfl h.b2 i14 rfl (by simp [Value.oneCell']) ?_; intro w3 b3 u3))
  refine HK1.out _ _ ?_
  clear HK1
  refine wp_ret ?_
  try simp only [Exit.then]
  refine bodyPost_ret (results_c1t2 rfl _ _ _ ⟨g2, 0, none⟩ _ _ _ rfl (BxS.load (t := 48) b3 Try.underlying48 Try.info_tk) rfl rfl) rfl ?_
  exact HP.out _ _ (h.fin u3 rfl (OwN.nil _ _))

set_option maxHeartbeats 16000000 in
theorem wo_t15n {u0 u1 u3 u4 u6 u7 u8 u9 u10 u11 u12 u13 u14 u15 u16 u17 u18 u19 u20 u21 u22 u23 u24 u25 u26 u27 u28 u29 u30 u31 u32 u33 u34 u35 u36 u37 u38 u39 u40 u41 u42 u43 u44 u45 u46 u47 u48 u49 u50 u51 u52 u53 u54 u55 u56 u57 u58 u59 u60 u61 u62 u63 u64 u65 u66 u67 u68 u69 u70 u71 u72 u73 u74 u75 u76 u77 u78 u79 u80 u81 u82 : Value} (P : Ending → World → Prop) (wB w : World) (g2 g5 : Nat) (V : Tv) (a : Option Addr) (c : Nat) (q : Option Addr) (d : Nat) (h : DTk wB w g2 g5 V a c q d) (hno : ¬ (V.st = 3 ∧ V.tr < V.li)) (hst : V.st = 0 ∨ V.st = 3 ∨ V.st = 4)
    (hP : ∀ e w', RDk wB V [] 0 e w' → P e w') :
    Code.wp Try.prog (tailR 15 (Try.f41.body.getD .skip)) (bodyPost Try.prog Try.f41 P) (Act.mk (List.toArray (u0 :: u1 :: (.pointer (some ⟨g2, 0, none⟩)) :: u3 :: u4 :: (.pointer (some ⟨g5, 0, none⟩)) :: u6 :: u7 :: u8 :: u9 :: u10 :: u11 :: u12 :: u13 :: u14 :: u15 :: u16 :: u17 :: u18 :: u19 :: u20 :: u21 :: u22 :: u23 :: u24 :: u25 :: u26 :: u27 :: u28 :: u29 :: u30 :: u31 :: u32 :: u33 :: u34 :: u35 :: u36 :: u37 :: u38 :: u39 :: u40 :: u41 :: u42 :: u43 :: u44 :: u45 :: u46 :: u47 :: u48 :: u49 :: u50 :: u51 :: u52 :: u53 :: u54 :: u55 :: u56 :: u57 :: u58 :: u59 :: u60 :: u61 :: u62 :: u63 :: u64 :: u65 :: u66 :: u67 :: u68 :: u69 :: u70 :: u71 :: u72 :: u73 :: u74 :: u75 :: u76 :: u77 :: u78 :: u79 :: u80 :: u81 :: u82 :: [])) []) w := by
  conv => enter [2]; whnf
  have HP : Hid _ := hP
  clear hP
  have i14 := Try.info_tk
  have y9 : w.cell? ⟨g5, 9, none⟩ = some (.int .i64 V.st) := h.b5.cell 9 (by show 9 < 14; decide)
  have y12 : w.cell? ⟨g5, 12, none⟩ = some (.int .i64 V.tr) := h.b5.cell 12 (by show 12 < 14; decide)
  have y13 : w.cell? ⟨g5, 13, none⟩ = some (.int .i64 V.li) := h.b5.cell 13 (by show 13 < 14; decide)
  have HH : Hid _ := h
  clear h
  refine wp_seq_k fun K1 hK1 => ?_
  have HK1 : Hid _ := hK1
  clear hK1
  by_cases h3 : V.st = 3
  · have hlt : ¬ V.tr < V.li := fun e => hno ⟨h3, e⟩
    rw [h3] at y9
    clear h3 hst hno
    go_wp2
    try simp only [Exit.then]
    refine HK1.out _ _ ?_
    clear HK1
    exact wo_t21 P wB w g2 g5 V a c q d HH.out (fun e w' k => HP.out e w' k)
  · have h3b : (V.st == 3) = false := beq_eq_false_iff_ne.2 h3
    generalize V.st = s at y9 h3 h3b hst hno
    clear hno
    go_wp2
    try simp only [Exit.then]
    refine HK1.out _ _ ?_
    clear HK1
    exact wo_t21 P wB w g2 g5 V a c q d HH.out (fun e w' k => HP.out e w' k)

set_option maxHeartbeats 16000000 in
theorem wo_t15y {u0 u1 u3 u4 u6 u7 u8 u9 u10 u11 u12 u13 u14 u15 u16 u17 u18 u19 u20 u21 u22 u23 u24 u25 u26 u27 u28 u29 u30 u31 u32 u33 u34 u35 u36 u37 u38 u39 u40 u41 u42 u43 u44 u45 u46 u47 u48 u49 u50 u51 u52 u53 u54 u55 u56 u57 u58 u59 u60 u61 u62 u63 u64 u65 u66 u67 u68 u69 u70 u71 u72 u73 u74 u75 u76 u77 u78 u79 u80 u81 u82 : Value} (P : Ending → World → Prop) (wB w : World) (g2 g5 : Nat) (V : Tv) (a : Option Addr) (c : Nat) (q : Option Addr) (d : Nat) (h : DTk wB w g2 g5 V a c q d) (hs3 : V.st = 3) (hlt : V.tr < V.li) (hti : 0 ≤ V.ti ∧ V.ti ≤ V.pa - 1 ∧ V.pa ≤ 1000) (htr : 0 ≤ V.tr ∧ V.tr ≤ V.li ∧ V.li ≤ 1000000)
    (hP : ∀ e w', RDk wB (tiT V).1 (tiT V).2 0 e w' → P e w') :
    Code.wp Try.prog (tailR 15 (Try.f41.body.getD .skip)) (bodyPost Try.prog Try.f41 P) (Act.mk (List.toArray (u0 :: u1 :: (.pointer (some ⟨g2, 0, none⟩)) :: u3 :: u4 :: (.pointer (some ⟨g5, 0, none⟩)) :: u6 :: u7 :: u8 :: u9 :: u10 :: u11 :: u12 :: u13 :: u14 :: u15 :: u16 :: u17 :: u18 :: u19 :: u20 :: u21 :: u22 :: u23 :: u24 :: u25 :: u26 :: u27 :: u28 :: u29 :: u30 :: u31 :: u32 :: u33 :: u34 :: u35 :: u36 :: u37 :: u38 :: u39 :: u40 :: u41 :: u42 :: u43 :: u44 :: u45 :: u46 :: u47 :: u48 :: u49 :: u50 :: u51 :: u52 :: u53 :: u54 :: u55 :: u56 :: u57 :: u58 :: u59 :: u60 :: u61 :: u62 :: u63 :: u64 :: u65 :: u66 :: u67 :: u68 :: u69 :: u70 :: u71 :: u72 :: u73 :: u74 :: u75 :: u76 :: u77 :: u78 :: u79 :: u80 :: u81 :: u82 :: [])) []) w := by
  conv => enter [2]; whnf
  have HP : Hid _ := hP
  clear hP
  have i14 := Try.info_tk
  have HX : Hid (tiT V = (if wtN V.ti V.pa = 0 then ({ V with st := V.st, ti := 0, tr := V.tr + 1 }, [ntDone V.id 0]) else ({ V with st := V.st, ti := wtN V.ti V.pa, tr := V.tr }, []))) := by
    show _ = _
    unfold tiT
    rw [if_neg (fun e => by have e1 := e.1; omega), if_pos ⟨hs3, hlt⟩]
  rw [HX.out] at HP
  clear HX
  have HS3 : Hid _ := hs3
  have HTI : Hid _ := hti
  have HTR : Hid _ := htr
  obtain ⟨t1, ht1⟩ : ∃ t1, V.ti + 1 = t1 := ⟨_, rfl⟩
  obtain ⟨r1, hr1⟩ : ∃ r1, V.tr + 1 = r1 := ⟨_, rfl⟩
  have hwt : IntKind.i64.wrap (V.ti + 1) = t1 := by rw [ht1]; exact wrap_i64_in _ (by omega) (by omega)
  have hwr : IntKind.i64.wrap (V.tr + 1) = r1 := by rw [hr1]; exact wrap_i64_in _ (by omega) (by omega)
  have hwn : wtN V.ti V.pa = if t1 = V.pa then 0 else t1 := by unfold wtN; rw [ht1]
  rw [hwn, hr1] at HP
  have HPA : Hid (0 < V.pa ∧ 1 ≤ t1) := ⟨by omega, by omega⟩
  clear hwn ht1 hr1
  have y9 : w.cell? ⟨g5, 9, none⟩ = some (.int .i64 V.st) := h.b5.cell 9 (by show 9 < 14; decide)
  rw [hs3] at y9
  have y10 : w.cell? ⟨g5, 10, none⟩ = some (.int .i64 V.ti) := h.b5.cell 10 (by show 10 < 14; decide)
  have y12 : w.cell? ⟨g5, 12, none⟩ = some (.int .i64 V.tr) := h.b5.cell 12 (by show 12 < 14; decide)
  have y13 : w.cell? ⟨g5, 13, none⟩ = some (.int .i64 V.li) := h.b5.cell 13 (by show 13 < 14; decide)
  clear hs3 hti htr
  refine wp_seq_k fun K1 hK1 => ?_
  have HK1 : Hid _ := hK1
  clear hK1
  refine wp_seq_k fun K2 hK2 => ?_
  have HK2 : Hid _ := hK2
  clear hK2
  go_wp2
  refine HK2.out _ _ ?_
  clear HK2
  refine wp_cond_true rfl ?_
  clear y9 y12 y13
  refine wp_seq_k fun K2 hK2 => ?_
  have HK2 : Hid _ := hK2
  clear hK2
  have s0 : True := trivial
  go_wp2_with (have _t := s0; clear s0; refine wpList_stC _ rfl _ _ _ rfl g5 10 48 _ #[.int .i64 V.id, .bool V.kn, .string V.nm, .int .i64 V.si, .bool V.en, .int .i64 V.la, .int .i64 V.su, .slice q V.G.length d, .slice a V.L.length c, .int .i64 V.st, .int .i64 t1, .int .i64 V.pa, .int .i64 V.tr, .int .i64 V.li] (.int .i64 t1) rfl rfl h.b5 (stc_int _ _ _) (by show 10 < 14; decide) rfl ?_; intro w1 bw1 uw1)
  refine HK2.out _ _ ?_
  clear HK2
  have h1 := h.set uw1 bw1
  clear y10 hlt
  have y10 : w1.cell? ⟨g5, 10, none⟩ = some (.int .i64 t1) := h1.b5.cell 10 (by show 10 < 14; decide)
  have y11 : w1.cell? ⟨g5, 11, none⟩ = some (.int .i64 V.pa) := h1.b5.cell 11 (by show 11 < 14; decide)
  refine wp_seq_k fun K2 hK2 => ?_
  have HK2 : Hid _ := hK2
  clear hK2
  by_cases hel : t1 = V.pa
  · have hel2 : (t1 == V.pa) = true := by rw [hel]; exact beq_self_eq_true _
    have HEL : Hid _ := hel
    clear hel
    go_wp2
    refine HK2.out _ _ ?_
    clear HK2
    refine wp_cond_true rfl ?_
    clear y10 y11 hel2
    refine wp_seq_k fun K2 hK2 => ?_
    have HK2 : Hid _ := hK2
    clear hK2
    have s0 : True := trivial
    go_wp2_with (have _t := s0; clear s0; refine wpList_stC _ rfl _ _ _ rfl g5 10 48 _ #[.int .i64 V.id, .bool V.kn, .string V.nm, .int .i64 V.si, .bool V.en, .int .i64 V.la, .int .i64 V.su, .slice q V.G.length d, .slice a V.L.length c, .int .i64 V.st, .int .i64 0, .int .i64 V.pa, .int .i64 V.tr, .int .i64 V.li] (.int .i64 0) rfl rfl h1.b5 (stc_int _ _ _) (by show 10 < 14; decide) rfl ?_; intro w2 bw2 uw2)
    refine HK2.out _ _ ?_
    clear HK2
    have h2 := h1.set uw2 bw2
    have y12 : w2.cell? ⟨g5, 12, none⟩ = some (.int .i64 V.tr) := h2.b5.cell 12 (by show 12 < 14; decide)
    refine wp_seq_k fun K2 hK2 => ?_
    have HK2 : Hid _ := hK2
    clear hK2
    have s0 : True := trivial
    go_wp2_with (have _t := s0; clear s0; refine wpList_stC _ rfl _ _ _ rfl g5 12 48 _ #[.int .i64 V.id, .bool V.kn, .string V.nm, .int .i64 V.si, .bool V.en, .int .i64 V.la, .int .i64 V.su, .slice q V.G.length d, .slice a V.L.length c, .int .i64 V.st, .int .i64 0, .int .i64 V.pa, .int .i64 r1, .int .i64 V.li] (.int .i64 r1) rfl rfl h2.b5 (stc_int _ _ _) (by show 12 < 14; decide) rfl ?_; intro w3 bw3 uw3)
    refine HK2.out _ _ ?_
    clear HK2
    have h3 : DTk wB w3 g2 g5 { V with st := V.st, ti := 0, tr := r1 } a c q d := h2.set uw3 bw3
    clear y12 uw3 bw3 h2 h1 h uw1 bw1 uw2 bw2
    refine wp_seq_k fun K2 hK2 => ?_
    have HK2 : Hid _ := hK2
    clear hK2
    have Gd := grown_drew w3 none
    have hd := h3.keepN Gd
    have SS : BxS w3.drew g5 48 #[.int .i64 V.id, .bool V.kn, .string V.nm, .int .i64 V.si, .bool V.en, .int .i64 V.la, .int .i64 V.su, .slice q V.G.length d, .slice a V.L.length c, .int .i64 V.st, .int .i64 0, .int .i64 V.pa, .int .i64 r1, .int .i64 V.li] := hd.b5
    refine wp_regionL (fun wz => BxS wz g5 48 #[.int .i64 V.id, .bool V.kn, .string V.nm, .int .i64 V.si, .bool V.en, .int .i64 V.la, .int .i64 V.su, .slice q V.G.length d, .slice a V.L.length c, .int .i64 V.st, .int .i64 0, .int .i64 V.pa, .int .i64 r1, .int .i64 V.li]) [] #[false, false, false, false, false, false, false] rfl (by kernel_rfl) ?_
    generalize w3.drew = w4 at *
    refine wpAnyZ_take [] 0 (.agg #[.int .i64 V.id, .bool V.kn, .string V.nm, .int .i64 V.si, .bool V.en, .int .i64 V.la, .int .i64 V.su, .slice q V.G.length d, .slice a V.L.length c, .int .i64 V.st, .int .i64 0, .int .i64 V.pa, .int .i64 r1, .int .i64 V.li]) rfl (by kernel_rfl) (fun _ _ _ h => h) SS rfl (by intro wz hz; exact ld_execD rfl rfl hz Try.underlying48 i14) ?_
    try simp only [List.getElem_toArray, List.getElem_cons_succ, List.getElem_cons_zero, Act.put, List.setIfInBounds_toArray, List.set_cons_zero, List.set_cons_succ]
    refine wpAnyZ_take [] 1 (.agg #[.int .i64 V.id, .bool V.kn, .string V.nm, .int .i64 V.si, .bool V.en, .int .i64 V.la, .int .i64 V.su, .slice q V.G.length d, .slice a V.L.length c, .int .i64 V.st, .int .i64 0, .int .i64 V.pa, .int .i64 r1, .int .i64 V.li]) rfl (by kernel_rfl) (fun _ _ _ h => h) SS rfl (by intro wz hz; exact ld_execD rfl rfl hz Try.underlying48 i14) ?_
    try simp only [List.getElem_toArray, List.getElem_cons_succ, List.getElem_cons_zero, Act.put, List.setIfInBounds_toArray, List.set_cons_zero, List.set_cons_succ]
    refine wpAnyZ_oneB 2 rfl (by kernel_rfl) (fun KK hKK => ?_)
    go_simp
    go_at_call 72
    refine (rdone_any V.id V.kn V.nm V.si V.en V.la V.su q V.G.length d a V.L.length c V.st 0 V.pa r1 V.li 0 w4).mono ?_
    rintro e w5 ⟨rfl, y5⟩
    dsimp only
    have S5 := SS.keep y5 (by simp)
    have h5 := hd.keepN y5
    refine hKK _ _ (fun _ => S5) ?_
    try simp only [List.getElem_toArray, List.getElem_cons_succ, List.getElem_cons_zero, Act.put, List.setIfInBounds_toArray, List.set_cons_zero, List.set_cons_succ]
    rw [if_pos HEL.out, if_pos rfl] at HP
    refine wpAnyZ_twoD 3 4 rfl rfl (by kernel_rfl) (fun KK hKK => ?_) (fun KK hKK => ?_)
    · have bA := BxS.new w5 27 (xDone V.id 0).arr
      have yA := World.grownBy_alloc w5 (.cells (xDone V.id 0).arr 27) none
      have harr : (xDone V.id 0).arr = #[.int .i64 5, .int .i64 V.id, .string ⟨#[]⟩, .int .i64 0, .int .i64 0, .int .i64 0, .slice none 0 0, .slice none 0 0, .int .i64 0, .int .i64 0] := rfl
      try rw [harr]
      go_simp
      rw [← harr]
      have S6 := S5.keep yA (by simp)
      have h6 := h5.keepN yA
      refine hKK _ _ (fun _ => S6) ?_
      try simp only [List.getElem_toArray, List.getElem_cons_succ, List.getElem_cons_zero, Act.put, List.setIfInBounds_toArray, List.set_cons_zero, List.set_cons_succ]
      have lA : wB.heap.size ≤ w5.heap.size := h5.g.size
      have hN : OwN (w5.alloc (.cells (xDone V.id 0).arr 27)) wB.heap.size (some ⟨w5.heap.size, 0, none⟩) 1 1 [(xDone V.id 0)] := OwN.oneN bA lA (Ans.nil _ _) (OwGi.nil _ _)
      generalize w5.alloc (.cells (xDone V.id 0).arr 27) = w6 at *
      refine wpAnyZ_oneB 4 rfl (by kernel_rfl) (fun KK hKK => ?_)
      refine step_stX _ rfl _ _ _ rfl g2 _ _ rfl rfl h6.b2 i14 rfl (by simp [Value.oneCell']) ?_
      intro w7 b7 u7
      have S7 := S6.keep u7 (fun e => h6.ne (Option.some.inj e).symm)
      refine hKK _ _ (fun _ => S7) ?_
      try simp only [List.getElem_toArray, List.getElem_cons_succ, List.getElem_cons_zero, Act.put, List.setIfInBounds_toArray, List.set_cons_zero, List.set_cons_succ]
      refine wpAnyZ_take [] 5 (.slice (some ⟨w5.heap.size, 0, none⟩) 1 1) rfl (by kernel_rfl) (fun _ _ _ h => h) S7 rfl (by intro wz hz; go_simp) ?_
      try simp only [List.getElem_toArray, List.getElem_cons_succ, List.getElem_cons_zero, Act.put, List.setIfInBounds_toArray, List.set_cons_zero, List.set_cons_succ]
      refine wpAnyZ_take [] 6 (.int .i64 0) rfl (by kernel_rfl) (fun _ _ _ h => h) S7 rfl (by intro wz hz; go_simp) ?_
      try simp only [List.getElem_toArray, List.getElem_cons_succ, List.getElem_cons_zero, Act.put, List.setIfInBounds_toArray, List.set_cons_zero, List.set_cons_succ]
      refine wpAnyZ_doneB (by kernel_rfl) ?_ _
      refine HK2.out _ _ ?_
      clear HK2
      refine wp_ret ?_
      try simp only [Exit.then]
      refine bodyPost_ret (results_c1t2 rfl _ _ _ ⟨g2, 0, none⟩ _ _ _ rfl (BxS.load (t := 48) b7 Try.underlying48 Try.info_tk) rfl rfl) rfl ?_
      exact HP.out _ _ (h6.fin u7 (T := [ntDone V.id 0]) rfl hN)
    · refine step_stX _ rfl _ _ _ rfl g2 _ _ rfl rfl h5.b2 i14 rfl (by simp [Value.oneCell']) ?_
      intro w7 b7 u7
      have S7 := S5.keep u7 (fun e => h5.ne (Option.some.inj e).symm)
      refine hKK _ _ (fun _ => S7) ?_
      try simp only [List.getElem_toArray, List.getElem_cons_succ, List.getElem_cons_zero, Act.put, List.setIfInBounds_toArray, List.set_cons_zero, List.set_cons_succ]
      have bA := BxS.new w7 27 (xDone V.id 0).arr
      have yA := World.grownBy_alloc w7 (.cells (xDone V.id 0).arr 27) none
      refine wpAnyZ_oneB 3 rfl (by kernel_rfl) (fun KK hKK => ?_)
      have harr : (xDone V.id 0).arr = #[.int .i64 5, .int .i64 V.id, .string ⟨#[]⟩, .int .i64 0, .int .i64 0, .int .i64 0, .slice none 0 0, .slice none 0 0, .int .i64 0, .int .i64 0] := rfl
      try rw [harr]
      go_simp
      rw [← harr]
      have S8 := S7.keep yA (by simp)
      have b7 := b7.keep yA (by simp)
      refine hKK _ _ (fun _ => S8) ?_
      try simp only [List.getElem_toArray, List.getElem_cons_succ, List.getElem_cons_zero, Act.put, List.setIfInBounds_toArray, List.set_cons_zero, List.set_cons_succ]
      have lA : wB.heap.size ≤ w7.heap.size := Nat.le_trans h5.g.size u7.size
      have hN : OwN (w7.alloc (.cells (xDone V.id 0).arr 27)) wB.heap.size (some ⟨w7.heap.size, 0, none⟩) 1 1 [(xDone V.id 0)] := OwN.oneN bA lA (Ans.nil _ _) (OwGi.nil _ _)
      generalize w7.alloc (.cells (xDone V.id 0).arr 27) = w8 at *
      refine wpAnyZ_take [] 5 (.slice (some ⟨w7.heap.size, 0, none⟩) 1 1) rfl (by kernel_rfl) (fun _ _ _ h => h) S8 rfl (by intro wz hz; go_simp) ?_
      try simp only [List.getElem_toArray, List.getElem_cons_succ, List.getElem_cons_zero, Act.put, List.setIfInBounds_toArray, List.set_cons_zero, List.set_cons_succ]
      refine wpAnyZ_take [] 6 (.int .i64 0) rfl (by kernel_rfl) (fun _ _ _ h => h) S8 rfl (by intro wz hz; go_simp) ?_
      try simp only [List.getElem_toArray, List.getElem_cons_succ, List.getElem_cons_zero, Act.put, List.setIfInBounds_toArray, List.set_cons_zero, List.set_cons_succ]
      refine wpAnyZ_doneB (by kernel_rfl) ?_ _
      refine HK2.out _ _ ?_
      clear HK2
      refine wp_ret ?_
      try simp only [Exit.then]
      refine bodyPost_ret (results_c1t2 rfl _ _ _ ⟨g2, 0, none⟩ _ _ _ rfl (BxS.load (t := 48) b7 Try.underlying48 Try.info_tk) rfl rfl) rfl ?_
      exact HP.out _ _ (h5.fin2 u7 yA (T := [ntDone V.id 0]) rfl hN)
  · have hel2 : (t1 == V.pa) = false := beq_eq_false_iff_ne.2 hel
    have HEL : Hid _ := hel
    clear hel
    go_wp2
    refine HK2.out _ _ ?_
    clear HK2
    refine wp_cond_false rfl ?_
    refine wp_skip ?_
    try simp only [Exit.then]
    refine HK1.out _ _ ?_
    clear HK1
    rw [if_neg HEL.out, if_neg (by have := HPA.out; omega)] at HP
    exact wo_t21 P wB w1 g2 g5 { V with st := V.st, ti := t1, tr := V.tr } a c q d h1 (fun e w' k => HP.out e w' k)
end
end Go.Proofs.Ytnimehkfnpepfaa
