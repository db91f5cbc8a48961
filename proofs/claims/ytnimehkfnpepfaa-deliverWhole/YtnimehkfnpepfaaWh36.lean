import Derived.Test.YtnimehkfnpepfaaWh22
import Derived.Test.YtnimehkfnpepfaaWh24
import Derived.Test.YtnimehkfnpepfaaWh35
namespace Go.Proofs.Ytnimehkfnpepfaa
open Go.RowKit
set_option maxRecDepth 100000
set_option linter.unusedVariables false
set_option linter.unusedSimpArgs false

section
/-- a taker is loaded out of one at work -/
theorem ld_14k {w : World} {o : Oper} {a : Act} {p : Operand} {g : Nat} {v0 v1 v2 v3 v4 v5 v6 v7 v8 v9 v10 v11 v12 v13 v14 : Value} (hop : o.op = Op.load 48 p) (hp : a.eval p = .pointer (some ⟨g, 0, none⟩)) (h : BxS w g 112 #[v0, v1, v2, v3, v4, v5, v6, v7, v8, v9, v10, v11, v12, v13, v14]) : (execOp a.eval o).run Try.prog w = .ok (.value (.agg #[v0, v1, v2, v3, v4, v5, v6, v7, v8, v9, v10, v11, v12, v13])) w := by
  have i14 := Try.info_tk
  have u14 := Try.underlying48
  have c0 : w.cell? ⟨g, 0, none⟩ = some v0 := h.cell 0 (by show 0 < 15; decide)
  have c1 : w.cell? ⟨g, 1, none⟩ = some v1 := h.cell 1 (by show 1 < 15; decide)
  have c2 : w.cell? ⟨g, 2, none⟩ = some v2 := h.cell 2 (by show 2 < 15; decide)
  have c3 : w.cell? ⟨g, 3, none⟩ = some v3 := h.cell 3 (by show 3 < 15; decide)
  have c4 : w.cell? ⟨g, 4, none⟩ = some v4 := h.cell 4 (by show 4 < 15; decide)
  have c5 : w.cell? ⟨g, 5, none⟩ = some v5 := h.cell 5 (by show 5 < 15; decide)
  have c6 : w.cell? ⟨g, 6, none⟩ = some v6 := h.cell 6 (by show 6 < 15; decide)
  have c7 : w.cell? ⟨g, 7, none⟩ = some v7 := h.cell 7 (by show 7 < 15; decide)
  have c8 : w.cell? ⟨g, 8, none⟩ = some v8 := h.cell 8 (by show 8 < 15; decide)
  have c9 : w.cell? ⟨g, 9, none⟩ = some v9 := h.cell 9 (by show 9 < 15; decide)
  have c10 : w.cell? ⟨g, 10, none⟩ = some v10 := h.cell 10 (by show 10 < 15; decide)
  have c11 : w.cell? ⟨g, 11, none⟩ = some v11 := h.cell 11 (by show 11 < 15; decide)
  have c12 : w.cell? ⟨g, 12, none⟩ = some v12 := h.cell 12 (by show 12 < 15; decide)
  have c13 : w.cell? ⟨g, 13, none⟩ = some v13 := h.cell 13 (by show 13 < 15; decide)
  have c14 : w.cell? ⟨g, 14, none⟩ = some v14 := h.cell 14 (by show 14 < 15; decide)
  simp [execOp, hop, hp]
  go_simp
set_option maxHeartbeats 16000000 in
theorem wa_t5 {u0 u1 u3 u4 u6 u7 u8 u9 u10 u11 u12 u13 u14 u15 u16 u17 u18 u19 u20 u21 : Value} (P : Ending → World → Prop) (wB w : World) (gw : Nat) (id : Int) (kn : Bool) (nm : ByteArray) (si : Int) (en : Bool) (la su : Int) (st ti pa tr li : Int) (a : Option Addr) (n c : Nat) (L : List Nat) (q : Option Addr) (m d : Nat) (G : List (Int × Int)) (na : Option Addr) (nn nc : Nat) (xs : List Nx) (h : TKW wB w gw id kn nm si en la su st ti pa tr li a n c L q m d G na nn nc xs) (g4 : Nat) (cs4 : Array Value) (hs4 : cs4.size = 14) (b4 : BxS w g4 48 cs4)
    (hP : ∀ w', w.grownBy w' (some g4) → P (.returned (.tuple #[.agg #[.int .i64 id, .bool kn, .string nm, .int .i64 si, .bool en, .int .i64 la, .int .i64 su, .slice q m d, .slice a n c, .int .i64 st, .int .i64 ti, .int .i64 pa, .int .i64 tr, .int .i64 li], .slice na nn nc, .int .i64 0])) w') :
    Code.wp Try.prog (tailR 5 (Try.f44.body.getD .skip)) (bodyPost Try.prog Try.f44 P) (Act.mk (List.toArray (u0 :: u1 :: (.pointer (some ⟨g4, 0, none⟩)) :: u3 :: u4 :: (.pointer (some ⟨gw, 0, none⟩)) :: u6 :: u7 :: u8 :: u9 :: u10 :: u11 :: u12 :: u13 :: u14 :: u15 :: u16 :: u17 :: u18 :: u19 :: u20 :: u21 :: [])) []) w := by
  conv => enter [2]; whnf
  have HP : Hid _ := hP
  clear hP
  have i13 := Try.info_tk
  refine wp_seq_k fun K1 hK1 => ?_
  have HK1 : Hid _ := hK1
  clear hK1
  have Gd := grown_drew w none
  have SS : BxS w.drew gw 112 #[.int .i64 id, .bool kn, .string nm, .int .i64 si, .bool en, .int .i64 la, .int .i64 su, .slice q m d, .slice a n c, .int .i64 st, .int .i64 ti, .int .i64 pa, .int .i64 tr, .int .i64 li, .slice na nn nc] := h.bx.keep Gd (by simp)
  have b4d := b4.keep Gd (by simp)
  refine wp_regionL (fun wz => BxS wz gw 112 #[.int .i64 id, .bool kn, .string nm, .int .i64 si, .bool en, .int .i64 la, .int .i64 su, .slice q m d, .slice a n c, .int .i64 st, .int .i64 ti, .int .i64 pa, .int .i64 tr, .int .i64 li, .slice na nn nc]) [] #[false, false, false, false, false, false, false, false, false, false, false] rfl (by kernel_rfl) ?_
  refine wpAnyZ_take [] 0 (.pointer (some ⟨gw, 0, none⟩)) rfl (by kernel_rfl) (fun _ _ _ h => h) SS rfl (by intro wz hz; go_simp) ?_
  try simp only [zc1, zc2, zc3, Act.put, zc4, zc5, zc6]
  refine wpAnyZ_take [] 1 (.pointer (some ⟨gw, 0, none⟩)) rfl (by kernel_rfl) (fun _ _ _ h => h) SS rfl (by intro wz hz; go_simp) ?_
  try simp only [zc1, zc2, zc3, Act.put, zc4, zc5, zc6]
  refine wpAnyZ_take [] 2 (.pointer (some ⟨gw, 0, none⟩)) rfl (by kernel_rfl) (fun _ _ _ h => h) SS rfl (by intro wz hz; go_simp) ?_
  try simp only [zc1, zc2, zc3, Act.put, zc4, zc5, zc6]
  refine wpAnyZ_take [] 3 (.agg #[.int .i64 id, .bool kn, .string nm, .int .i64 si, .bool en, .int .i64 la, .int .i64 su, .slice q m d, .slice a n c, .int .i64 st, .int .i64 ti, .int .i64 pa, .int .i64 tr, .int .i64 li]) rfl (by kernel_rfl) (fun _ _ _ h => h) SS rfl (by intro wz hz; exact ld_14k rfl rfl hz) ?_
  try simp only [zc1, zc2, zc3, Act.put, zc4, zc5, zc6]
  refine wpAnyZ_take [] 4 (.pointer (some ⟨gw, 0, none⟩)) rfl (by kernel_rfl) (fun _ _ _ h => h) SS rfl (by intro wz hz; go_simp) ?_
  try simp only [zc1, zc2, zc3, Act.put, zc4, zc5, zc6]
  refine wpAnyZ_take [] 5 (.pointer (some ⟨gw, 0, none⟩)) rfl (by kernel_rfl) (fun _ _ _ h => h) SS rfl (by intro wz hz; go_simp) ?_
  try simp only [zc1, zc2, zc3, Act.put, zc4, zc5, zc6]
  refine wpAnyZ_take [] 6 (.pointer (some ⟨gw, 14, none⟩)) rfl (by kernel_rfl) (fun _ _ _ h => h) SS rfl (by intro wz hz; go_simp) ?_
  try simp only [zc1, zc2, zc3, Act.put, zc4, zc5, zc6]
  refine wpAnyZ_take [] 7 (.slice na nn nc) rfl (by kernel_rfl) (fun _ _ _ h => h) SS rfl (by intro wz hz; have z : wz.cell? ⟨gw, 14, none⟩ = some (.slice na nn nc) := hz.cell 14 (by show 14 < 15; decide); go_simp) ?_
  try simp only [zc1, zc2, zc3, Act.put, zc4, zc5, zc6]
  have l4 := b4d.lt
  generalize w.drew = w2 at *
  refine wpAnyZ_oneB 8 rfl (by kernel_rfl) (fun KK hKK => ?_)
  refine step_stX _ rfl _ _ _ rfl g4 _ _ rfl rfl b4d i13 hs4 (by simp [Value.oneCell']) ?_
  intro w3 b43 u3
  have S3 := SS.keep u3 (fun e => BxS.apart SS b4d (by decide) (Option.some.inj e))
  refine hKK _ _ (fun _ => S3) ?_
  try simp only [zc1, zc2, zc3, Act.put, zc4, zc5, zc6]
  refine wpAnyZ_take [] 9 (.slice na nn nc) rfl (by kernel_rfl) (fun _ _ _ h => h) S3 rfl (by intro wz hz; go_simp) ?_
  try simp only [zc1, zc2, zc3, Act.put, zc4, zc5, zc6]
  refine wpAnyZ_take [] 10 (.int .i64 0) rfl (by kernel_rfl) (fun _ _ _ h => h) S3 rfl (by intro wz hz; go_simp) ?_
  try simp only [zc1, zc2, zc3, Act.put, zc4, zc5, zc6]
  refine wpAnyZ_doneB (by kernel_rfl) ?_ _
  refine HK1.out _ _ ?_
  clear HK1
  go_wp2
  refine bodyPost_ret (results_c1t2 rfl _ _ _ ⟨g4, 0, none⟩ _ _ _ rfl (BxS.load (t := 48) b43 Try.underlying48 Try.info_tk) rfl rfl) rfl ?_
  exact HP.out w3 (grown_trans (grown_weak Gd _) u3)


set_option maxHeartbeats 32000000 in
/-- Wait -/
theorem wait2_any (V : Tv) (a q : Option Addr) (c d : Nat) (w : World) (hL : Rd w a V.L.length c V.L) (hG : RdG w q V.G.length d (giF V.G)) (hn : V.L.length ≤ 140737488351232) (hm : V.G.length ≤ 8796093021952) :
    Calls Try.prog 44 #[.agg (tkA V.id V.kn V.nm V.si V.en V.la V.su (.slice q V.G.length d) (.slice a V.L.length c) V.st V.ti V.pa V.tr V.li)] w fun e w' => RK w (waV (tmB V.id V.kn V.nm V.si V.en V.la V.su (giF V.G) V.G.length V.L V.st V.ti V.pa V.tr V.li) V).1 (waV (tmB V.id V.kn V.nm V.si V.en V.la V.su (giF V.G) V.G.length V.L V.st V.ti V.pa V.tr V.li) V).2.1 (waV (tmB V.id V.kn V.nm V.si V.en V.la V.su (giF V.G) V.G.length V.L V.st V.ti V.pa V.tr V.li) V).2.2 e w' := by
  have i14 := Try.info_tk
  have kM := fun wz (k1 : Rd wz a V.L.length c V.L) (k : RdG wz q V.G.length d (giF V.G)) => takerMay_any V.id V.kn V.nm V.si V.en V.la V.su q V.G.length d a V.L.length c V.st V.ti V.pa V.tr V.li (giF V.G) V.L wz k1 k hm hn
  have kA := fun wz (k1 : Rd wz a V.L.length c V.L) (k : RdG wz q V.G.length d (giF V.G)) => tkAtWork_any V.id V.kn V.nm V.si V.en V.la V.su q V.G.length d a V.L.length c V.st V.ti V.pa V.tr V.li (giF V.G) V.L wz k1 k hn hm
  have hgo := fun h => tmB_go (V := V) h
  have HGO : Hid _ := hgo
  clear hgo
  unfold tkA at kM kA
  generalize (tmB V.id V.kn V.nm V.si V.en V.la V.su (giF V.G) V.G.length V.L V.st V.ti V.pa V.tr V.li) = gB at kM HGO
  have b1 := BxS.new w 48 #[.int .i64 V.id, .bool V.kn, .string V.nm, .int .i64 V.si, .bool V.en, .int .i64 V.la, .int .i64 V.su, .slice q V.G.length d, .slice a V.L.length c, .int .i64 V.st, .int .i64 V.ti, .int .i64 V.pa, .int .i64 V.tr, .int .i64 V.li]
  have y1 := World.grownBy_alloc w (.cells #[.int .i64 V.id, .bool V.kn, .string V.nm, .int .i64 V.si, .bool V.en, .int .i64 V.la, .int .i64 V.su, .slice q V.G.length d, .slice a V.L.length c, .int .i64 V.st, .int .i64 V.ti, .int .i64 V.pa, .int .i64 V.tr, .int .i64 V.li] 48) none
  unfold tkA
  have hz1 : (w.alloc (.cells #[.int .i64 V.id, .bool V.kn, .string V.nm, .int .i64 V.si, .bool V.en, .int .i64 V.la, .int .i64 V.su, .slice q V.G.length d, .slice a V.L.length c, .int .i64 V.st, .int .i64 V.ti, .int .i64 V.pa, .int .i64 V.tr, .int .i64 V.li] 48)).heap.size = w.heap.size + 1 := by simp
  generalize hw1 : w.alloc (.cells #[.int .i64 V.id, .bool V.kn, .string V.nm, .int .i64 V.si, .bool V.en, .int .i64 V.la, .int .i64 V.su, .slice q V.G.length d, .slice a V.L.length c, .int .i64 V.st, .int .i64 V.ti, .int .i64 V.pa, .int .i64 V.tr, .int .i64 V.li] 48) = w1 at b1 y1 hz1
  have b2 := BxS.new w1 48 #[.int .i64 0, .bool false, .string ⟨#[]⟩, .int .i64 0, .bool false, .int .i64 0, .int .i64 0, .slice none 0 0, .slice none 0 0, .int .i64 0, .int .i64 0, .int .i64 0, .int .i64 0, .int .i64 0]
  have y2 := World.grownBy_alloc w1 (.cells #[.int .i64 0, .bool false, .string ⟨#[]⟩, .int .i64 0, .bool false, .int .i64 0, .int .i64 0, .slice none 0 0, .slice none 0 0, .int .i64 0, .int .i64 0, .int .i64 0, .int .i64 0, .int .i64 0] 48) none
  rw [hz1] at b2
  generalize hw2 : w1.alloc (.cells #[.int .i64 0, .bool false, .string ⟨#[]⟩, .int .i64 0, .bool false, .int .i64 0, .int .i64 0, .slice none 0 0, .slice none 0 0, .int .i64 0, .int .i64 0, .int .i64 0, .int .i64 0, .int .i64 0] 48) = w2 at b2 y2
  have b1 := b1.keep y2 (by simp)
  have G2 := grown_trans y1 y2
  go_enter Try.func44, Try.ntmps44
  refine wp_seq_k fun K1 hK1 => ?_
  have HK1 : Hid _ := hK1
  clear hK1
  go_wp2
  refine HK1.out _ _ ?_
  clear HK1
  clear hw1 hw2 y1 y2
  have s0 : True := trivial
  cases gB with
  | false =>
    go_wp2_with (first
      | (have _t := s0; clear s0; refine wpList_ldX _ rfl _ (.tmp 1) rfl w.heap.size _ rfl b1 Try.underlying48 i14 ?_; have s1 : True := trivial)
      | (go_at_call 77; have _t := s1; clear s1; refine (kM w2 (hL.keep G2) (hG.keep G2)).mono ?_; rintro e w3 ⟨rfl, y3⟩; have b23 := b2.keep y3 (by simp); have s2 : True := trivial)
      | (have _t := s2; clear s2; refine wpList_stX _ rfl _ (.tmp 2) (.tmp 9) rfl (w.heap.size + 1) _ _ rfl rfl b23 i14 rfl (by simp [Value.oneCell']) ?_; intro w4 b24 u4))
    refine bodyPost_ret (results_c1t2 rfl _ _ _ ⟨w.heap.size + 1, 0, none⟩ _ _ _ rfl (BxS.load (t := 48) b24 Try.underlying48 Try.info_tk) rfl rfl) rfl ?_
    exact ⟨none, 0, none, 0, none, 0, [], rfl, rfl, Ans.nil _ _, OwGi.nil _ _, OwN.nil _ _, (fun z e => by cases e), (fun z e => by cases e), grown_far (grown_trans G2 y3) u4 (fun z e => by have e := Option.some.inj e; omega)⟩
  | true =>
    have HO : Hid _ := HGO.out rfl
    refine wp_seq_k fun K2 hK2 => ?_
    have HK2 : Hid _ := hK2
    clear hK2
    go_wp2_with (first
      | (have _t := s0; clear s0; refine wpList_ldX _ rfl _ (.tmp 1) rfl w.heap.size _ rfl b1 Try.underlying48 i14 ?_; have s1 : True := trivial)
      | (go_at_call 77; have _t := s1; clear s1; refine (kM w2 (hL.keep G2) (hG.keep G2)).mono ?_; rintro e w3 ⟨rfl, y3⟩; have s2 : True := trivial))
    refine HK2.out _ _ ?_
    clear HK2
    have b13 := b1.keep y3 (by simp)
    have b23 := b2.keep y3 (by simp)
    have G3 := grown_trans G2 y3
    refine wp_seq_k fun K3 hK3 => ?_
    have HK3 : Hid _ := hK3
    clear hK3
    go_wp2_with (first
      | (have _t := s2; clear s2; refine wpList_ldX _ rfl _ (.tmp 1) rfl w.heap.size _ rfl b13 Try.underlying48 i14 ?_; have s3 : True := trivial)
      | (go_at_call 78; have _t := s3; clear s3; refine (kA w3 (hL.keep G3) (hG.keep G3)).mono ?_; rintro e w4 ⟨gw, a', c', q', d', rfl, bw, hA, hO, hgw, y4⟩))
    refine HK3.out _ _ ?_
    clear HK3
    rw [tab_giF] at hO
    have z3 := G3.size
    have hW : TKW w w4 gw V.id V.kn V.nm V.si V.en V.la V.su V.st V.ti V.pa V.tr V.li a' V.L.length c' V.L q' V.G.length d' V.G none 0 0 [] := ⟨bw, hA.wide z3, hO.wide z3, OwN.nil _ _, by omega, (fun z e => nbl_nil), (fun z e => nbl_nil), grown_trans G3 y4⟩
    have b24 := b23.keep y4 (by simp)
    refine wp_seq_k fun K4 hK4 => ?_
    have HK4 : Hid _ := hK4
    clear hK4
    go_wp2_with (go_at_call 80; refine (ttick_any w w4 gw V [] ⟨a', c', q', d', none, 0, [], rfl, hW⟩ HO.out (by simp)).mono ?_; rintro e w5 ⟨rfl, h5, k5⟩)
    refine HK4.out _ _ ?_
    clear HK4
    have b25 := k5 _ _ b24
    have HX : Hid (waV true V = ((tiT V).1, (tiT V).2, 0)) := rfl
    rw [HX.out]
    rw [List.nil_append] at h5
    generalize tiT V = R at h5 ⊢
    obtain ⟨W, T⟩ := R
    dsimp only at h5 ⊢
    obtain ⟨a5, c5, q5, d5, na5, nc5, xs5, hT5, h5⟩ := h5
    have hxl : xs5.length = T.length := by rw [← hT5, List.length_map]
    rw [hxl] at h5
    refine wa_t5 _ w w5 gw W.id W.kn W.nm W.si W.en W.la W.su W.st W.ti W.pa W.tr W.li a5 W.L.length c5 W.L q5 W.G.length d5 W.G na5 T.length nc5 xs5 h5 (w.heap.size + 1) _ rfl b25 ?_
    intro w' u9
    exact ⟨a5, c5, q5, d5, na5, nc5, xs5, rfl, hT5, h5.A.kRR u9 (fun z e e2 => by have e := Option.some.inj e; subst e; exact own_ty h5.A.own b25 (by decide) e2), h5.O.bx b25 (by decide) u9, h5.N.bx b25 (by decide) (by decide) (by decide) u9, h5.sA, h5.sO, grown_far h5.g u9 (fun z e => by have e := Option.some.inj e; omega)⟩
end
end Go.Proofs.Ytnimehkfnpepfaa
