import Derived.Test.YtnimehkfnpepfaaGi17
import Derived.Test.YtnimehkfnpepfaaGi9
import Derived.Test.YtnimehkfnpepfaaGi5
import Derived.Test.YtnimehkfnpepfaaGi6
import Derived.Test.YtnimehkfnpepfaaGi3
import Derived.Test.YtnimehkfnpepfaaGi7
import Derived.Test.YtnimehkfnpepfaaGi4
import Derived.Test.YtnimehkfnpepfaaGi18
namespace Go.Proofs.Ytnimehkfnpepfaa
open Go.RowKit
set_option maxRecDepth 100000
set_option linter.unusedVariables false
set_option linter.unusedSimpArgs false

section
/-- what Give answers -/
def giV (gB : Bool) (V : Gv) : Gv × List Nt × Nat := if gB = false then (zGv, [], 11) else ((tiG V).1, (tiG V).2, 0)
theorem gvB_go {V : Gv} (h : (gvB V.id V.nm.size V.L.length V.mo V.bu V.st V.fi V.at' V.G.length (alG (giF V.G) V.L.length V.G.length) V.ti V.pa V.tr V.li) = true) : GvO V ∧ (∃ B : Nat, V.bu = (B : Int) ∧ B ≤ 50) ∧ (0 ≤ V.st ∧ V.st ≤ 4) := by
  have hp := gvB_parts h
  unfold gvB at h
  simp only [Bool.and_eq_true, decide_eq_true_eq] at h
  obtain ⟨h1, h2, h3, h4, h5, h6, h7⟩ := h
  have ho : ofB V.id V.pa V.li V.mo V.bu = true ∧ ofC V.nm.size V.L.length = true := by
    unfold ofE at h1
    by_cases e : ofB V.id V.pa V.li V.mo V.bu = true
    · rw [if_pos e] at h1
      by_cases e2 : ofC V.nm.size V.L.length = true
      · exact ⟨e, e2⟩
      · rw [if_neg e2] at h1; cases h1
    · rw [if_neg e] at h1; cases h1
  obtain ⟨o1, o2⟩ := ho
  unfold ofB dsB kwB at o1
  unfold ofC kwB at o2
  unfold kwB at h3 h6 h7
  simp only [Bool.and_eq_true, decide_eq_true_eq] at o1 o2 h3 h6 h7
  refine ⟨⟨by omega, by omega, by omega, fun p hp9 => ?_, h4, by omega, by omega⟩, ⟨V.bu.toNat, by omega, by omega⟩, hp.1⟩
  obtain ⟨i, hi, e⟩ := List.getElem_of_mem hp9
  have := alG_at h5 hi
  have e2 : giF V.G i = p := by unfold giF; rw [List.getD_eq_getElem?_getD, List.getElem?_eq_getElem hi]; exact e
  rw [e2] at this
  exact this

set_option maxHeartbeats 16000000 in
theorem gv_t5 {u0 u1 u3 u4 u6 u7 u8 u9 u10 u11 u12 u13 u14 u15 u16 u17 u18 u19 u20 u21 : Value} (P : Ending → World → Prop) (wB w : World) (gw : Nat) (id : Int) (nm : ByteArray) (mo bu st : Int) (fi : Bool) (at' ti pa tr li : Int) (a : Option Addr) (n c : Nat) (L : List Nat) (q : Option Addr) (m d : Nat) (G : List (Int × Int)) (na : Option Addr) (nn nc : Nat) (xs : List Nx) (h : GW wB w gw id nm mo bu st fi at' ti pa tr li a n c L q m d G na nn nc xs) (g4 : Nat) (cs4 : Array Value) (hs4 : cs4.size = 13) (b4 : BxS w g4 44 cs4)
    (hP : ∀ w', w.grownBy w' (some g4) → P (.returned (.tuple #[.agg #[.int .i64 id, .string nm, .slice a n c, .int .i64 mo, .int .i64 bu, .int .i64 st, .bool fi, .int .i64 at', .slice q m d, .int .i64 ti, .int .i64 pa, .int .i64 tr, .int .i64 li], .slice na nn nc, .int .i64 0])) w') :
    Code.wp Try.prog (tailR 5 (Try.f32.body.getD .skip)) (bodyPost Try.prog Try.f32 P) (Act.mk (List.toArray (u0 :: u1 :: (.pointer (some ⟨g4, 0, none⟩)) :: u3 :: u4 :: (.pointer (some ⟨gw, 0, none⟩)) :: u6 :: u7 :: u8 :: u9 :: u10 :: u11 :: u12 :: u13 :: u14 :: u15 :: u16 :: u17 :: u18 :: u19 :: u20 :: u21 :: [])) []) w := by
  conv => enter [2]; whnf
  have HP : Hid _ := hP
  clear hP
  have i13 := Try.info_gv
  refine wp_seq_k fun K1 hK1 => ?_
  have HK1 : Hid _ := hK1
  clear hK1
  have Gd := grown_drew w none
  have SS : BxS w.drew gw 100 #[.int .i64 id, .string nm, .slice a n c, .int .i64 mo, .int .i64 bu, .int .i64 st, .bool fi, .int .i64 at', .slice q m d, .int .i64 ti, .int .i64 pa, .int .i64 tr, .int .i64 li, .slice na nn nc] := h.bx.keep Gd (by simp)
  have b4d := b4.keep Gd (by simp)
  refine wp_regionL (fun wz => BxS wz gw 100 #[.int .i64 id, .string nm, .slice a n c, .int .i64 mo, .int .i64 bu, .int .i64 st, .bool fi, .int .i64 at', .slice q m d, .int .i64 ti, .int .i64 pa, .int .i64 tr, .int .i64 li, .slice na nn nc]) [] #[false, false, false, false, false, false, false, false, false, false, false] rfl (by kernel_rfl) ?_
  refine wpAnyZ_take [] 0 (.pointer (some ⟨gw, 0, none⟩)) rfl (by kernel_rfl) (fun _ _ _ h => h) SS rfl (by intro wz hz; go_simp) ?_
  try simp only [List.getElem_toArray, List.getElem_cons_succ, List.getElem_cons_zero, Act.put, List.setIfInBounds_toArray, List.set_cons_zero, List.set_cons_succ]
  refine wpAnyZ_take [] 1 (.pointer (some ⟨gw, 0, none⟩)) rfl (by kernel_rfl) (fun _ _ _ h => h) SS rfl (by intro wz hz; go_simp) ?_
  try simp only [List.getElem_toArray, List.getElem_cons_succ, List.getElem_cons_zero, Act.put, List.setIfInBounds_toArray, List.set_cons_zero, List.set_cons_succ]
  refine wpAnyZ_take [] 2 (.pointer (some ⟨gw, 0, none⟩)) rfl (by kernel_rfl) (fun _ _ _ h => h) SS rfl (by intro wz hz; go_simp) ?_
  try simp only [List.getElem_toArray, List.getElem_cons_succ, List.getElem_cons_zero, Act.put, List.setIfInBounds_toArray, List.set_cons_zero, List.set_cons_succ]
  refine wpAnyZ_take [] 3 (.agg #[.int .i64 id, .string nm, .slice a n c, .int .i64 mo, .int .i64 bu, .int .i64 st, .bool fi, .int .i64 at', .slice q m d, .int .i64 ti, .int .i64 pa, .int .i64 tr, .int .i64 li]) rfl (by kernel_rfl) (fun _ _ _ h => h) SS rfl (by intro wz hz; exact ld_13 rfl rfl hz) ?_
  try simp only [List.getElem_toArray, List.getElem_cons_succ, List.getElem_cons_zero, Act.put, List.setIfInBounds_toArray, List.set_cons_zero, List.set_cons_succ]
  refine wpAnyZ_take [] 4 (.pointer (some ⟨gw, 0, none⟩)) rfl (by kernel_rfl) (fun _ _ _ h => h) SS rfl (by intro wz hz; go_simp) ?_
  try simp only [List.getElem_toArray, List.getElem_cons_succ, List.getElem_cons_zero, Act.put, List.setIfInBounds_toArray, List.set_cons_zero, List.set_cons_succ]
  refine wpAnyZ_take [] 5 (.pointer (some ⟨gw, 0, none⟩)) rfl (by kernel_rfl) (fun _ _ _ h => h) SS rfl (by intro wz hz; go_simp) ?_
  try simp only [List.getElem_toArray, List.getElem_cons_succ, List.getElem_cons_zero, Act.put, List.setIfInBounds_toArray, List.set_cons_zero, List.set_cons_succ]
  refine wpAnyZ_take [] 6 (.pointer (some ⟨gw, 13, none⟩)) rfl (by kernel_rfl) (fun _ _ _ h => h) SS rfl (by intro wz hz; go_simp) ?_
  try simp only [List.getElem_toArray, List.getElem_cons_succ, List.getElem_cons_zero, Act.put, List.setIfInBounds_toArray, List.set_cons_zero, List.set_cons_succ]
  refine wpAnyZ_take [] 7 (.slice na nn nc) rfl (by kernel_rfl) (fun _ _ _ h => h) SS rfl (by intro wz hz; have z : wz.cell? ⟨gw, 13, none⟩ = some (.slice na nn nc) := hz.cell 13 (by show 13 < 14; decide); go_simp) ?_
  try simp only [List.getElem_toArray, List.getElem_cons_succ, List.getElem_cons_zero, Act.put, List.setIfInBounds_toArray, List.set_cons_zero, List.set_cons_succ]
  have l4 := b4d.lt
  generalize w.drew = w2 at *
  refine wpAnyZ_oneB 8 rfl (by kernel_rfl) (fun KK hKK => ?_)
  refine step_stX _ rfl _ _ _ rfl g4 _ _ rfl rfl b4d i13 hs4 (by simp [Value.oneCell']) ?_
  intro w3 b43 u3
  have S3 := SS.keep u3 (fun e => BxS.apart SS b4d (by decide) (Option.some.inj e))
  refine hKK _ _ (fun _ => S3) ?_
  try simp only [List.getElem_toArray, List.getElem_cons_succ, List.getElem_cons_zero, Act.put, List.setIfInBounds_toArray, List.set_cons_zero, List.set_cons_succ]
  refine wpAnyZ_take [] 9 (.slice na nn nc) rfl (by kernel_rfl) (fun _ _ _ h => h) S3 rfl (by intro wz hz; go_simp) ?_
  try simp only [List.getElem_toArray, List.getElem_cons_succ, List.getElem_cons_zero, Act.put, List.setIfInBounds_toArray, List.set_cons_zero, List.set_cons_succ]
  refine wpAnyZ_take [] 10 (.int .i64 0) rfl (by kernel_rfl) (fun _ _ _ h => h) S3 rfl (by intro wz hz; go_simp) ?_
  try simp only [List.getElem_toArray, List.getElem_cons_succ, List.getElem_cons_zero, Act.put, List.setIfInBounds_toArray, List.set_cons_zero, List.set_cons_succ]
  refine wpAnyZ_doneB (by kernel_rfl) ?_ _
  refine HK1.out _ _ ?_
  clear HK1
  go_wp2
  refine bodyPost_ret (results_c1t2 rfl _ _ _ ⟨g4, 0, none⟩ _ _ _ rfl (BxS.load (t := 44) b43 Try.underlying44 Try.info_gv) rfl rfl) rfl ?_
  exact HP.out w3 (grown_trans (grown_weak Gd _) u3)

set_option maxHeartbeats 32000000 in
/-- Give -/
theorem give_any (V : Gv) (a q : Option Addr) (c d : Nat) (w : World) (hL : Rd w a V.L.length c V.L) (hG : RdG w q V.G.length d (giF V.G)) (hn : V.L.length ≤ 140737488351232) (hm : V.G.length ≤ 8796093021952) (hpa : -9223372036854775808 ≤ V.pa ∧ V.pa ≤ 9223372036854775807) :
    Calls Try.prog 32 #[.agg (gvA V.id V.nm (.slice a V.L.length c) V.mo V.bu V.st V.fi V.at' (.slice q V.G.length d) V.ti V.pa V.tr V.li)] w fun e w' => RT w (giV (gvB V.id V.nm.size V.L.length V.mo V.bu V.st V.fi V.at' V.G.length (alG (giF V.G) V.L.length V.G.length) V.ti V.pa V.tr V.li) V).1 (giV (gvB V.id V.nm.size V.L.length V.mo V.bu V.st V.fi V.at' V.G.length (alG (giF V.G) V.L.length V.G.length) V.ti V.pa V.tr V.li) V).2.1 (giV (gvB V.id V.nm.size V.L.length V.mo V.bu V.st V.fi V.at' V.G.length (alG (giF V.G) V.L.length V.G.length) V.ti V.pa V.tr V.li) V).2.2 e w' := by
  have i13 := Try.info_gv
  have kM := fun wz (k : RdG wz q V.G.length d (giF V.G)) => giverMay_any V.id V.nm a V.L.length c V.mo V.bu V.st V.fi V.at' q V.G.length d V.ti V.pa V.tr V.li (giF V.G) wz k hpa
  have kA := fun wz (k1 : Rd wz a V.L.length c V.L) (k : RdG wz q V.G.length d (giF V.G)) => atWork_any V.id V.nm a V.L.length c V.mo V.bu V.st V.fi V.at' q V.G.length d V.ti V.pa V.tr V.li (giF V.G) V.L wz k1 k hn hm
  have hgo := fun h => gvB_go (V := V) h
  have HGO : Hid _ := hgo
  clear hgo
  unfold gvA at kM kA
  generalize (gvB V.id V.nm.size V.L.length V.mo V.bu V.st V.fi V.at' V.G.length (alG (giF V.G) V.L.length V.G.length) V.ti V.pa V.tr V.li) = gB at kM HGO
  have b1 := BxS.new w 44 #[.int .i64 V.id, .string V.nm, .slice a V.L.length c, .int .i64 V.mo, .int .i64 V.bu, .int .i64 V.st, .bool V.fi, .int .i64 V.at', .slice q V.G.length d, .int .i64 V.ti, .int .i64 V.pa, .int .i64 V.tr, .int .i64 V.li]
  have y1 := World.grownBy_alloc w (.cells #[.int .i64 V.id, .string V.nm, .slice a V.L.length c, .int .i64 V.mo, .int .i64 V.bu, .int .i64 V.st, .bool V.fi, .int .i64 V.at', .slice q V.G.length d, .int .i64 V.ti, .int .i64 V.pa, .int .i64 V.tr, .int .i64 V.li] 44) none
  unfold gvA
  have hz1 : (w.alloc (.cells #[.int .i64 V.id, .string V.nm, .slice a V.L.length c, .int .i64 V.mo, .int .i64 V.bu, .int .i64 V.st, .bool V.fi, .int .i64 V.at', .slice q V.G.length d, .int .i64 V.ti, .int .i64 V.pa, .int .i64 V.tr, .int .i64 V.li] 44)).heap.size = w.heap.size + 1 := by simp
  generalize hw1 : w.alloc (.cells #[.int .i64 V.id, .string V.nm, .slice a V.L.length c, .int .i64 V.mo, .int .i64 V.bu, .int .i64 V.st, .bool V.fi, .int .i64 V.at', .slice q V.G.length d, .int .i64 V.ti, .int .i64 V.pa, .int .i64 V.tr, .int .i64 V.li] 44) = w1 at b1 y1 hz1
  have b2 := BxS.new w1 44 #[.int .i64 0, .string ⟨#[]⟩, .slice none 0 0, .int .i64 0, .int .i64 0, .int .i64 0, .bool false, .int .i64 0, .slice none 0 0, .int .i64 0, .int .i64 0, .int .i64 0, .int .i64 0]
  have y2 := World.grownBy_alloc w1 (.cells #[.int .i64 0, .string ⟨#[]⟩, .slice none 0 0, .int .i64 0, .int .i64 0, .int .i64 0, .bool false, .int .i64 0, .slice none 0 0, .int .i64 0, .int .i64 0, .int .i64 0, .int .i64 0] 44) none
  rw [hz1] at b2
  generalize hw2 : w1.alloc (.cells #[.int .i64 0, .string ⟨#[]⟩, .slice none 0 0, .int .i64 0, .int .i64 0, .int .i64 0, .bool false, .int .i64 0, .slice none 0 0, .int .i64 0, .int .i64 0, .int .i64 0, .int .i64 0] 44) = w2 at b2 y2
  have b1 := b1.keep y2 (by simp)
  have G2 := grown_trans y1 y2
  go_enter Try.func32, Try.ntmps32
  refine wp_seq_k fun K1 hK1 => ?_
  have HK1 : Hid _ := hK1
  clear hK1
  go_wp2
  refine HK1.out _ _ ?_
  clear HK1
  clear hw1 hw2 y1 y2
  have s0 : True := trivial
  cases gB with
  | false =>
    go_wp2_with (first
      | (have _t := s0; clear s0; refine wpList_ldX _ rfl _ (.tmp 1) rfl w.heap.size _ rfl b1 Try.underlying44 i13 ?_; have s1 : True := trivial)
      | (go_at_call 66; have _t := s1; clear s1; refine (kM w2 (hG.keep G2)).mono ?_; rintro e w3 ⟨rfl, y3⟩; have b23 := b2.keep y3 (by simp); have s2 : True := trivial)
      | (have _t := s2; clear s2; refine wpList_stX _ rfl _ (.tmp 2) (.tmp 9) rfl (w.heap.size + 1) _ _ rfl rfl b23 i13 rfl (by simp [Value.oneCell']) ?_; intro w4 b24 u4))
    refine bodyPost_ret (results_c1t2 rfl _ _ _ ⟨w.heap.size + 1, 0, none⟩ _ _ _ rfl (BxS.load (t := 44) b24 Try.underlying44 Try.info_gv) rfl rfl) rfl ?_
    exact ⟨none, 0, none, 0, none, 0, [], rfl, rfl, Ans.nil _ _, OwGi.nil _ _, OwN.nil _ _, (fun z e => by cases e), (fun z e => by cases e), grown_far (grown_trans G2 y3) u4 (fun z e => by have e := Option.some.inj e; omega)⟩
  | true =>
    obtain ⟨ho, ⟨B, hB, hB9⟩, hst⟩ := HGO.out rfl
    have HO : Hid _ := ho
    have HBB : Hid _ := hB
    clear ho hB
    refine wp_seq_k fun K2 hK2 => ?_
    have HK2 : Hid _ := hK2
    clear hK2
    go_wp2_with (first
      | (have _t := s0; clear s0; refine wpList_ldX _ rfl _ (.tmp 1) rfl w.heap.size _ rfl b1 Try.underlying44 i13 ?_; have s1 : True := trivial)
      | (go_at_call 66; have _t := s1; clear s1; refine (kM w2 (hG.keep G2)).mono ?_; rintro e w3 ⟨rfl, y3⟩; have s2 : True := trivial))
    refine HK2.out _ _ ?_
    clear HK2
    have b13 := b1.keep y3 (by simp)
    have b23 := b2.keep y3 (by simp)
    have G3 := grown_trans G2 y3
    refine wp_seq_k fun K3 hK3 => ?_
    have HK3 : Hid _ := hK3
    clear hK3
    go_wp2_with (first
      | (have _t := s2; clear s2; refine wpList_ldX _ rfl _ (.tmp 1) rfl w.heap.size _ rfl b13 Try.underlying44 i13 ?_; have s3 : True := trivial)
      | (go_at_call 67; have _t := s3; clear s3; refine (kA w3 (hL.keep G3) (hG.keep G3)).mono ?_; rintro e w4 ⟨gw, a', c', q', d', rfl, bw, hA, hO, hgw, y4⟩))
    refine HK3.out _ _ ?_
    clear HK3
    rw [tab_giF] at hO
    have z3 := G3.size
    have hW : GW w w4 gw V.id V.nm V.mo V.bu V.st V.fi V.at' V.ti V.pa V.tr V.li a' V.L.length c' V.L q' V.G.length d' V.G none 0 0 [] := ⟨bw, hA.wide z3, hO.wide z3, OwN.nil _ _, by omega, (fun z e => nbl_nil), (fun z e => nbl_nil), grown_trans G3 y4⟩
    have b24 := b23.keep y4 (by simp)
    refine wp_seq_k fun K4 hK4 => ?_
    have HK4 : Hid _ := hK4
    clear hK4
    go_wp2_with (go_at_call 68; refine (tick_any w w4 gw V ⟨a', c', q', d', none, 0, [], rfl, hW⟩ HO.out B HBB.out (by omega) hst).mono ?_; rintro e w5 ⟨rfl, h5, k5⟩)
    refine HK4.out _ _ ?_
    clear HK4
    have b25 := k5 _ _ b24
    have HX : Hid (giV true V = ((tiG V).1, (tiG V).2, 0)) := rfl
    rw [HX.out]
    generalize tiG V = R at h5 ⊢
    obtain ⟨W, T⟩ := R
    dsimp only at h5 ⊢
    obtain ⟨a5, c5, q5, d5, na5, nc5, xs5, hT5, h5⟩ := h5
    have hxl : xs5.length = T.length := by rw [← hT5, List.length_map]
    rw [hxl] at h5
    refine gv_t5 _ w w5 gw W.id W.nm W.mo W.bu W.st W.fi W.at' W.ti W.pa W.tr W.li a5 W.L.length c5 W.L q5 W.G.length d5 W.G na5 T.length nc5 xs5 h5 (w.heap.size + 1) _ rfl b25 ?_
    intro w' u9
    exact ⟨a5, c5, q5, d5, na5, nc5, xs5, rfl, hT5, h5.A.kRR u9 (fun z e e2 => by have e := Option.some.inj e; subst e; exact own_ty h5.A.own b25 (by decide) e2), h5.O.bx b25 (by decide) u9, h5.N.bx b25 (by decide) (by decide) (by decide) u9, h5.sA, h5.sO, grown_far h5.g u9 (fun z e => by have e := Option.some.inj e; omega)⟩
end

section
/-- the document's giver at work -/
structure DX (wB w : World) (g1 g2 gv : Nat) (s0 : Int) (V : Gv) (a : Option Addr) (c : Nat) (q : Option Addr) (d : Nat) (na : Option Addr) (nn nc : Nat) (xs : List Nx) : Prop where
  b1 : ∃ cs, BxS w g1 44 cs ∧ cs[5]? = some (.int .i64 s0)
  b2 : ∃ cs : Array Value, cs.size = 13 ∧ BxS w g2 44 cs
  bv : BxS w gv 92 #[.int .i64 V.id, .string V.nm, .slice a V.L.length c, .int .i64 V.mo, .int .i64 V.bu, .int .i64 V.st, .bool V.fi, .int .i64 V.at', .slice q V.G.length d, .int .i64 V.ti, .int .i64 V.pa, .int .i64 V.tr, .int .i64 V.li]
  A : Ans w wB.heap.size a V.L.length c V.L
  O : OgP w wB.heap.size q V.G.length d V.G
  N : OwN w wB.heap.size na nn nc xs
  nq : ∀ x, x ∈ xs → x.q = none
  l2 : wB.heap.size ≤ g2
  lv : wB.heap.size ≤ gv
  g : wB.grownBy w none
section
variable {wB w w' : World} {g1 g2 gv : Nat} {s0 : Int} {V : Gv} {a : Option Addr} {c : Nat} {q : Option Addr} {d : Nat} {na : Option Addr} {nn nc : Nat} {xs : List Nx}
theorem DX.keepN (h : DX wB w g1 g2 gv s0 V a c q d na nn nc xs) (u : w.grownBy w' none) : DX wB w' g1 g2 gv s0 V a c q d na nn nc xs := by
  obtain ⟨c1, k1, k2⟩ := h.b1
  obtain ⟨c2, k3, k4⟩ := h.b2
  exact ⟨⟨c1, k1.keep u (by simp), k2⟩, ⟨c2, k3, k4.keep u (by simp)⟩, h.bv.keep u (by simp), h.A.keep u, h.O.keep u, h.N.keep u, h.nq, h.l2, h.lv, grown_trans h.g u⟩
/-- its own numbers are written -/
theorem DX.setV (h : DX wB w g1 g2 gv s0 V a c q d na nn nc xs) (u : w.grownBy w' (some gv)) {V' : Gv} (hL : V'.L = V.L) {q' : Option Addr} {d' : Nat} (hO : OgP w wB.heap.size q' V'.G.length d' V'.G) (b : BxS w' gv 92 #[.int .i64 V'.id, .string V'.nm, .slice a V'.L.length c, .int .i64 V'.mo, .int .i64 V'.bu, .int .i64 V'.st, .bool V'.fi, .int .i64 V'.at', .slice q' V'.G.length d', .int .i64 V'.ti, .int .i64 V'.pa, .int .i64 V'.tr, .int .i64 V'.li]) : DX wB w' g1 g2 gv s0 V' a c q' d' na nn nc xs := by
  obtain ⟨c1, k1, k2⟩ := h.b1
  obtain ⟨c2, k3, k4⟩ := h.b2
  have hA := h.A
  rw [← hL] at hA
  exact ⟨⟨c1, k1.keep u (fun e => BxS.apart k1 h.bv (by decide) (Option.some.inj e)), k2⟩, ⟨c2, k3, k4.keep u (fun e => BxS.apart k4 h.bv (by decide) (Option.some.inj e))⟩, b, hA.kRR u (fun z e e2 => by have e := Option.some.inj e; subst e; exact own_ty hA.own h.bv (by decide) e2), hO.bx h.bv (by decide) u, h.N.bx h.bv (by decide) (by decide) (by decide) u, h.nq, h.l2, h.lv, grown_far h.g u (fun z e => by have e := Option.some.inj e; have := h.lv; omega)⟩
/-- the first pair is written -/
theorem DX.hd (h : DX wB w g1 g2 gv s0 V a c q d na nn nc xs) {gq : Nat} {cur : Array Value} (bq : BxS w gq 82 cur) (lq : wB.heap.size ≤ gq) (u : w.grownBy w' (some gq)) {V' : Gv} (hV : V' = { V with G := V'.G }) (hm : V'.G.length = V.G.length) (hO : OgP w' wB.heap.size q V'.G.length d V'.G) : DX wB w' g1 g2 gv s0 V' a c q d na nn nc xs := by
  obtain ⟨c1, k1, k2⟩ := h.b1
  obtain ⟨c2, k3, k4⟩ := h.b2
  have hL : V'.L = V.L := by rw [hV]
  have hA := h.A
  rw [← hL] at hA
  have bv' := h.bv.keep u (fun e => BxS.apart h.bv bq (by decide) (Option.some.inj e))
  refine ⟨⟨c1, k1.keep u (fun e => BxS.apart k1 bq (by decide) (Option.some.inj e)), k2⟩, ⟨c2, k3, k4.keep u (fun e => BxS.apart k4 bq (by decide) (Option.some.inj e))⟩, ?_, hA.kRR u (fun z e e2 => by have e := Option.some.inj e; subst e; exact own_ty hA.own bq (by decide) e2), hO, h.N.kR u (fun z e hz => ?_), h.nq, h.l2, h.lv, grown_far h.g u (fun z e => by have e := Option.some.inj e; omega)⟩
  · rw [← hm] at bv'
    rw [hV]
    exact bv'
  · have e := Option.some.inj e
    subst e
    rcases hz with e | ⟨x, hx, e | e⟩
    · exact own_ty h.N.own bq (by decide) e
    · exact own_ty (h.N.eA x hx).own bq (by decide) e
    · rw [h.nq x hx] at e; cases e
/-- a note more -/
theorem DX.push (h : DX wB w g1 g2 gv s0 V a c q d na nn nc xs) {x : Nx} (hx : x.q = none) (hxg : x.ga = []) (hxd : x.d = 0) (hxA : Ans w wB.heap.size x.a x.da.length x.c x.da) (hsep : ∀ z, (Value.slice x.a x.da.length x.c).ownBlock = some z → ¬ Nbl na nn nc xs z) {gx cx : Nat} (hor : (Value.slice na nn nc).ownBlock = some gx ∨ w.heap.size ≤ gx) (u : w.grownBy w' (Value.slice na nn nc).ownBlock) (hO : w'.ownsRow 0 27 10 (.slice (some ⟨gx, 0, none⟩) (nn + 1) cx) (nn + 1) (flN xs ++ x.cells)) : DX wB w' g1 g2 gv s0 V a c q d (some ⟨gx, 0, none⟩) (nn + 1) cx (xs ++ [x]) := by
  obtain ⟨c1, k1, k2⟩ := h.b1
  obtain ⟨c2, k3, k4⟩ := h.b2
  have hrow : ∀ z, (Value.slice na nn nc).ownBlock = some z → ∃ cs, BxS w z 27 cs := fun z e => own_bxS h.N.own e
  have hxO : OwGi w wB.heap.size x.q x.ga.length x.d x.ga := by rw [hx, hxg, hxd]; exact OwGi.nil _ _
  refine ⟨⟨c1, k1.keep u (fun e => by obtain ⟨cs, hb⟩ := hrow _ e.symm; exact BxS.apart k1 hb (by decide) rfl), k2⟩, ⟨c2, k3, k4.keep u (fun e => by obtain ⟨cs, hb⟩ := hrow _ e.symm; exact BxS.apart k4 hb (by decide) rfl)⟩, h.bv.keep u (fun e => by obtain ⟨cs, hb⟩ := hrow _ e.symm; exact BxS.apart h.bv hb (by decide) rfl), h.A.kRR u (fun z e e2 => by obtain ⟨cs, hb⟩ := hrow z e; exact own_ty h.A.own hb (by decide) e2), h.O.kR u (fun z e ⟨cs2, hb2⟩ => by obtain ⟨cs, hb⟩ := hrow z e; exact BxS.apart hb2 hb (by decide) rfl), h.N.push hxA hxO (fun z e => ?_) h.g.size hor u hO, (fun y hy => ?_), h.l2, h.lv, grown_far h.g u (fun z e => h.N.new z e)⟩
  · rcases e with e | e
    · exact hsep z e
    · rw [hx] at e; cases e
  · rcases List.mem_append.1 hy with hy | hy
    · exact h.nq y hy
    · rw [List.mem_singleton.1 hy]; exact hx
end

set_option maxHeartbeats 16000000 in
theorem gf_t9 {u0 u3 u4 u7 u8 u9 u10 u11 u12 u13 u14 u15 u16 u17 u18 u19 u20 u21 u22 u23 u24 u25 u26 u27 u28 u29 u30 u31 u32 u33 u34 u35 u36 u37 u38 u39 u40 u41 u42 u43 u44 u45 u46 u47 u48 u49 u50 u51 u52 u53 u54 u55 u56 u57 u58 u59 u60 u61 u62 u63 u64 u65 u66 u67 u68 u69 u70 u71 u72 u73 u74 u75 u76 u77 u78 u79 u80 u81 u82 u83 u84 u85 u86 u87 u88 u89 u90 u91 u92 u93 u94 u95 u96 u97 u98 u99 u100 u101 u102 u103 u104 u105 u106 u107 u108 u109 u110 u111 u112 u113 u114 u115 u116 u117 u118 u119 u120 u121 u122 u123 u124 u125 u126 u127 u128 u129 u130 u131 u132 u133 u134 u135 u136 u137 u138 u139 u140 u141 u142 u143 u144 u145 u146 u147 u148 u149 u150 u151 u152 u153 u154 u155 u156 u157 u158 u159 u160 u161 u162 u163 u164 u165 u166 u167 u168 u169 u170 u171 u172 u173 u174 u175 u176 u177 u178 u179 u180 u181 u182 u183 u184 u185 u186 u187 u188 u189 u190 u191 u192 u193 u194 u195 u196 u197 u198 u199 u200 u201 u202 u203 u204 u205 u206 u207 u208 u209 u210 u211 u212 u213 u214 u215 u216 u217 u218 u219 u220 u221 u222 u223 u224 u225 u226 u227 u228 u229 u230 u231 u232 u233 u234 u235 u236 u237 u238 u239 u240 u241 u242 u243 u244 u245 u246 u247 u248 u249 u250 u251 u252 u253 u254 u255 u256 u257 u258 u259 u260 u261 u262 u263 u264 u265 u266 u267 u268 u269 u270 u271 u272 u273 u274 u275 u276 u277 u278 u279 u280 u281 u282 u283 u284 u285 u286 u287 u288 u289 u290 u291 u292 u293 u294 u295 u296 u297 u298 u299 u300 u301 u302 : Value} (Q : Exit → Act → World → Prop) (wB w : World) (g1 g2 gv : Nat) (s0 : Int) (V : Gv) (a : Option Addr) (c : Nat) (q : Option Addr) (d : Nat) (na : Option Addr) (nn nc : Nat) (xs : List Nx) (V0 : Gv) (T0 : List Nt) (h : DX wB w g1 g2 gv s0 V a c q d na nn nc xs) (ho : GvO V0) (hnn : nn ≤ 1000) (hPn : ∀ c a a' wz, a.defers = a'.defers → Q (.panic c) a wz → Q (.panic c) a' wz) (hT : xs.map Nx.dt = T0) (hV : V = V0) (hfi : V0.fi = true) (hQT : (snV V0).2.2 = true → ∀ {z7 z8 z9 z10 z45 z46 z47 z48 z49 z50 z51 z52 z53 z54 z55 z56 z57 z58 z59 z60 z61 z62 z63 z64 z65 z66 z67 z68 z69 z70 z71 z72 z73 z74 z75 z76 z77 z78 z79 z80 z81 z82 z83 z84 z85 z86 z87 z88 z89 z90 z91 z92 z93 z94 z95 z96 z97 z98 z99 z100 z101 z102 z103 z104 z105 z106 z107 z108 z109 z110 z111 z112 z113 z114 z115 z116 z117 z118 z119 z120 z121 z122 z123 z124 z125 z126 z127 z128 z129 z130 z131 z132 z133 z134 z135 z136 z137 z138 z139 z140 z141 z142 z143 z144 z145 z146 z147 z148 z149 z150 z151 z152 z153 z154 z155 z156 z157 z158 z159 z160 z161 z162 z163 z164 z165 z166 z167 z168 z169 z170 z171 z172 z173 z174 z175 z176 z177 z178 z179 z180 z181 z182 z183 z184 z185 z186 z187 z188 z189 z190 z191 z192 z193 z194 z195 z196 z197 z198 z199 z200 z201 z202 z203 z204 z205 z206 z207 z208 z209 z210 z211 z212 z213 z214 z215 z216 z217 z218 z219 z220 z221 z222 z223 z224 z225 z226 z227 : Value} w' a' c' q' d' na' nn' nc' xs', xs'.map Nx.dt = T0 ++ (snV V0).2.1 → DX wB w' g1 g2 gv s0 (snV V0).1 a' c' q' d' na' nn' nc' xs' → Q .normal (Act.mk (List.toArray (u0 :: (.pointer (some ⟨g1, 0, none⟩)) :: (.pointer (some ⟨g2, 0, none⟩)) :: u3 :: u4 :: (.pointer (some ⟨gv, 0, none⟩)) :: (.slice na' nn' nc') :: z7 :: z8 :: z9 :: z10 :: u11 :: u12 :: u13 :: u14 :: u15 :: u16 :: u17 :: u18 :: u19 :: u20 :: u21 :: u22 :: u23 :: u24 :: u25 :: u26 :: u27 :: u28 :: u29 :: u30 :: u31 :: u32 :: u33 :: u34 :: u35 :: u36 :: u37 :: u38 :: u39 :: u40 :: u41 :: u42 :: u43 :: u44 :: z45 :: z46 :: z47 :: z48 :: z49 :: z50 :: z51 :: z52 :: z53 :: z54 :: z55 :: z56 :: z57 :: z58 :: z59 :: z60 :: z61 :: z62 :: z63 :: z64 :: z65 :: z66 :: z67 :: z68 :: z69 :: z70 :: z71 :: z72 :: z73 :: z74 :: z75 :: z76 :: z77 :: z78 :: z79 :: z80 :: z81 :: z82 :: z83 :: z84 :: z85 :: z86 :: z87 :: z88 :: z89 :: z90 :: z91 :: z92 :: z93 :: z94 :: z95 :: z96 :: z97 :: z98 :: z99 :: z100 :: z101 :: z102 :: z103 :: z104 :: z105 :: z106 :: z107 :: z108 :: z109 :: z110 :: z111 :: z112 :: z113 :: z114 :: z115 :: z116 :: z117 :: z118 :: z119 :: z120 :: z121 :: z122 :: z123 :: z124 :: z125 :: z126 :: z127 :: z128 :: z129 :: z130 :: z131 :: z132 :: z133 :: z134 :: z135 :: z136 :: z137 :: z138 :: z139 :: z140 :: z141 :: z142 :: z143 :: z144 :: z145 :: z146 :: z147 :: z148 :: z149 :: z150 :: z151 :: z152 :: z153 :: z154 :: z155 :: z156 :: z157 :: z158 :: z159 :: z160 :: z161 :: z162 :: z163 :: z164 :: z165 :: z166 :: z167 :: z168 :: z169 :: z170 :: z171 :: z172 :: z173 :: z174 :: z175 :: z176 :: z177 :: z178 :: z179 :: z180 :: z181 :: z182 :: z183 :: z184 :: z185 :: z186 :: z187 :: z188 :: z189 :: z190 :: z191 :: z192 :: z193 :: z194 :: z195 :: z196 :: z197 :: z198 :: z199 :: z200 :: z201 :: z202 :: z203 :: z204 :: z205 :: z206 :: z207 :: z208 :: z209 :: z210 :: z211 :: z212 :: z213 :: z214 :: z215 :: z216 :: z217 :: z218 :: z219 :: z220 :: z221 :: z222 :: z223 :: z224 :: z225 :: z226 :: z227 :: u228 :: u229 :: u230 :: u231 :: u232 :: u233 :: u234 :: u235 :: u236 :: u237 :: u238 :: u239 :: u240 :: u241 :: u242 :: u243 :: u244 :: u245 :: u246 :: u247 :: u248 :: u249 :: u250 :: u251 :: u252 :: u253 :: u254 :: u255 :: u256 :: u257 :: u258 :: u259 :: u260 :: u261 :: u262 :: u263 :: u264 :: u265 :: u266 :: u267 :: u268 :: u269 :: u270 :: u271 :: u272 :: u273 :: u274 :: u275 :: u276 :: u277 :: u278 :: u279 :: u280 :: u281 :: u282 :: u283 :: u284 :: u285 :: u286 :: u287 :: u288 :: u289 :: u290 :: u291 :: u292 :: u293 :: u294 :: u295 :: u296 :: u297 :: u298 :: u299 :: u300 :: u301 :: u302 :: [])) []) w' ∧ Q (.exit 1) (Act.mk (List.toArray (u0 :: (.pointer (some ⟨g1, 0, none⟩)) :: (.pointer (some ⟨g2, 0, none⟩)) :: u3 :: u4 :: (.pointer (some ⟨gv, 0, none⟩)) :: (.slice na' nn' nc') :: z7 :: z8 :: z9 :: z10 :: u11 :: u12 :: u13 :: u14 :: u15 :: u16 :: u17 :: u18 :: u19 :: u20 :: u21 :: u22 :: u23 :: u24 :: u25 :: u26 :: u27 :: u28 :: u29 :: u30 :: u31 :: u32 :: u33 :: u34 :: u35 :: u36 :: u37 :: u38 :: u39 :: u40 :: u41 :: u42 :: u43 :: u44 :: z45 :: z46 :: z47 :: z48 :: z49 :: z50 :: z51 :: z52 :: z53 :: z54 :: z55 :: z56 :: z57 :: z58 :: z59 :: z60 :: z61 :: z62 :: z63 :: z64 :: z65 :: z66 :: z67 :: z68 :: z69 :: z70 :: z71 :: z72 :: z73 :: z74 :: z75 :: z76 :: z77 :: z78 :: z79 :: z80 :: z81 :: z82 :: z83 :: z84 :: z85 :: z86 :: z87 :: z88 :: z89 :: z90 :: z91 :: z92 :: z93 :: z94 :: z95 :: z96 :: z97 :: z98 :: z99 :: z100 :: z101 :: z102 :: z103 :: z104 :: z105 :: z106 :: z107 :: z108 :: z109 :: z110 :: z111 :: z112 :: z113 :: z114 :: z115 :: z116 :: z117 :: z118 :: z119 :: z120 :: z121 :: z122 :: z123 :: z124 :: z125 :: z126 :: z127 :: z128 :: z129 :: z130 :: z131 :: z132 :: z133 :: z134 :: z135 :: z136 :: z137 :: z138 :: z139 :: z140 :: z141 :: z142 :: z143 :: z144 :: z145 :: z146 :: z147 :: z148 :: z149 :: z150 :: z151 :: z152 :: z153 :: z154 :: z155 :: z156 :: z157 :: z158 :: z159 :: z160 :: z161 :: z162 :: z163 :: z164 :: z165 :: z166 :: z167 :: z168 :: z169 :: z170 :: z171 :: z172 :: z173 :: z174 :: z175 :: z176 :: z177 :: z178 :: z179 :: z180 :: z181 :: z182 :: z183 :: z184 :: z185 :: z186 :: z187 :: z188 :: z189 :: z190 :: z191 :: z192 :: z193 :: z194 :: z195 :: z196 :: z197 :: z198 :: z199 :: z200 :: z201 :: z202 :: z203 :: z204 :: z205 :: z206 :: z207 :: z208 :: z209 :: z210 :: z211 :: z212 :: z213 :: z214 :: z215 :: z216 :: z217 :: z218 :: z219 :: z220 :: z221 :: z222 :: z223 :: z224 :: z225 :: z226 :: z227 :: u228 :: u229 :: u230 :: u231 :: u232 :: u233 :: u234 :: u235 :: u236 :: u237 :: u238 :: u239 :: u240 :: u241 :: u242 :: u243 :: u244 :: u245 :: u246 :: u247 :: u248 :: u249 :: u250 :: u251 :: u252 :: u253 :: u254 :: u255 :: u256 :: u257 :: u258 :: u259 :: u260 :: u261 :: u262 :: u263 :: u264 :: u265 :: u266 :: u267 :: u268 :: u269 :: u270 :: u271 :: u272 :: u273 :: u274 :: u275 :: u276 :: u277 :: u278 :: u279 :: u280 :: u281 :: u282 :: u283 :: u284 :: u285 :: u286 :: u287 :: u288 :: u289 :: u290 :: u291 :: u292 :: u293 :: u294 :: u295 :: u296 :: u297 :: u298 :: u299 :: u300 :: u301 :: u302 :: [])) []) w')  :
    Code.wp Try.prog (tailR 9 (Try.f30.body.getD .skip)) Q (Act.mk (List.toArray (u0 :: (.pointer (some ⟨g1, 0, none⟩)) :: (.pointer (some ⟨g2, 0, none⟩)) :: u3 :: u4 :: (.pointer (some ⟨gv, 0, none⟩)) :: (.slice na nn nc) :: u7 :: u8 :: u9 :: u10 :: u11 :: u12 :: u13 :: u14 :: u15 :: u16 :: u17 :: u18 :: u19 :: u20 :: u21 :: u22 :: u23 :: u24 :: u25 :: u26 :: u27 :: u28 :: u29 :: u30 :: u31 :: u32 :: u33 :: u34 :: u35 :: u36 :: u37 :: u38 :: u39 :: u40 :: u41 :: u42 :: u43 :: u44 :: u45 :: u46 :: u47 :: u48 :: u49 :: u50 :: u51 :: u52 :: u53 :: u54 :: u55 :: u56 :: u57 :: u58 :: u59 :: u60 :: u61 :: u62 :: u63 :: u64 :: u65 :: u66 :: u67 :: u68 :: u69 :: u70 :: u71 :: u72 :: u73 :: u74 :: u75 :: u76 :: u77 :: u78 :: u79 :: u80 :: u81 :: u82 :: u83 :: u84 :: u85 :: u86 :: u87 :: u88 :: u89 :: u90 :: u91 :: u92 :: u93 :: u94 :: u95 :: u96 :: u97 :: u98 :: u99 :: u100 :: u101 :: u102 :: u103 :: u104 :: u105 :: u106 :: u107 :: u108 :: u109 :: u110 :: u111 :: u112 :: u113 :: u114 :: u115 :: u116 :: u117 :: u118 :: u119 :: u120 :: u121 :: u122 :: u123 :: u124 :: u125 :: u126 :: u127 :: u128 :: u129 :: u130 :: u131 :: u132 :: u133 :: u134 :: u135 :: u136 :: u137 :: u138 :: u139 :: u140 :: u141 :: u142 :: u143 :: u144 :: u145 :: u146 :: u147 :: u148 :: u149 :: u150 :: u151 :: u152 :: u153 :: u154 :: u155 :: u156 :: u157 :: u158 :: u159 :: u160 :: u161 :: u162 :: u163 :: u164 :: u165 :: u166 :: u167 :: u168 :: u169 :: u170 :: u171 :: u172 :: u173 :: u174 :: u175 :: u176 :: u177 :: u178 :: u179 :: u180 :: u181 :: u182 :: u183 :: u184 :: u185 :: u186 :: u187 :: u188 :: u189 :: u190 :: u191 :: u192 :: u193 :: u194 :: u195 :: u196 :: u197 :: u198 :: u199 :: u200 :: u201 :: u202 :: u203 :: u204 :: u205 :: u206 :: u207 :: u208 :: u209 :: u210 :: u211 :: u212 :: u213 :: u214 :: u215 :: u216 :: u217 :: u218 :: u219 :: u220 :: u221 :: u222 :: u223 :: u224 :: u225 :: u226 :: u227 :: u228 :: u229 :: u230 :: u231 :: u232 :: u233 :: u234 :: u235 :: u236 :: u237 :: u238 :: u239 :: u240 :: u241 :: u242 :: u243 :: u244 :: u245 :: u246 :: u247 :: u248 :: u249 :: u250 :: u251 :: u252 :: u253 :: u254 :: u255 :: u256 :: u257 :: u258 :: u259 :: u260 :: u261 :: u262 :: u263 :: u264 :: u265 :: u266 :: u267 :: u268 :: u269 :: u270 :: u271 :: u272 :: u273 :: u274 :: u275 :: u276 :: u277 :: u278 :: u279 :: u280 :: u281 :: u282 :: u283 :: u284 :: u285 :: u286 :: u287 :: u288 :: u289 :: u290 :: u291 :: u292 :: u293 :: u294 :: u295 :: u296 :: u297 :: u298 :: u299 :: u300 :: u301 :: u302 :: [])) []) w := by
  conv => enter [2]; whnf
  have HQT : Hid _ := @hQT
  clear hQT
  subst hV
  have HX : Hid (snV V = ({ V with fi := false }, [ntMeta V], true)) := by show _ = _; unfold snV; rw [if_pos hfi]
  have HT : Hid _ := hT
  clear hT
  refine wp_seq_k fun K1 hK1 => ?_
  have HK1 : Hid _ := hK1
  clear hK1
  have s0' : True := trivial
  go_wp2_with (have _t := s0'; clear s0'; refine wpList_stC _ rfl _ _ _ rfl gv 6 92 _ #[.int .i64 V.id, .string V.nm, .slice a V.L.length c, .int .i64 V.mo, .int .i64 V.bu, .int .i64 V.st, .bool false, .int .i64 V.at', .slice q V.G.length d, .int .i64 V.ti, .int .i64 V.pa, .int .i64 V.tr, .int .i64 V.li] (.bool false) rfl rfl h.bv (stc_bool _ _ _) (by show 6 < 13; decide) rfl ?_; intro w1 bw1 uw1)
  refine HK1.out _ _ ?_
  clear HK1
  have h1 := h.setV uw1 (V' := { V with fi := false }) rfl h.O bw1
  clear uw1 bw1
  have kC : Calls Try.prog 61 #[.pointer (some ⟨gv, 0, none⟩)] w1 (fun e w' => e = .returned (.agg #[.int .i64 1, .int .i64 V.id, .string V.nm, .int .i64 (V.L.length : Int), .int .i64 0, .int .i64 0, .slice none 0 0, .slice none 0 0, .int .i64 0, .int .i64 0]) ∧ w1.grownBy w' none) := rmeta_any w1 gv _ _ _ _ _ _ _ _ _ _ _ _ _ _ _ _ _ h1.bv
  obtain ⟨i0, hi, hz0, hz1, hz2⟩ := info_parts Try.info_nt3
  have s0' : True := trivial
  go_wp2_with (first
    | (go_at_call 61; have _t := s0'; clear s0'; refine Calls.mono kC ?_; rintro e wc ⟨rfl, yc⟩; have bA := BxS.new wc 27 #[.int .i64 1, .int .i64 V.id, .string V.nm, .int .i64 (V.L.length : Int), .int .i64 0, .int .i64 0, .slice none 0 0, .slice none 0 0, .int .i64 0, .int .i64 0]; have yA := World.grownBy_alloc wc (.cells #[.int .i64 1, .int .i64 V.id, .string V.nm, .int .i64 (V.L.length : Int), .int .i64 0, .int .i64 0, .slice none 0 0, .slice none 0 0, .int .i64 0, .int .i64 0] 27) none; generalize hwA : wc.alloc (.cells #[.int .i64 1, .int .i64 V.id, .string V.nm, .int .i64 (V.L.length : Int), .int .i64 0, .int .i64 0, .slice none 0 0, .slice none 0 0, .int .i64 0, .int .i64 0] 27) = wA at bA yA; have hA := h1.keepN (grown_trans yc yA); have s1' : True := trivial)
    | (at_builtin; have _t := s1'; clear s1'; refine wpList_apS wA rfl _ _ 54 27 i0 _ 10 120 Try.underlying54 hi hz0 hz1 hz2 rfl (by decide) rfl (.slice na nn nc) nn (flN xs) rfl hA.N.own ⟨wc.heap.size, 0, none⟩ 1 1 (xMeta V.id V.nm V.L.length).cells rfl rfl bA.newsA (by intro u hu; simp only [xMeta, Nx.cells, Nx.arr, List.mem_cons, List.not_mem_nil, or_false] at hu; rcases hu with rfl | rfl | rfl | rfl | rfl | rfl | rfl | rfl | rfl | rfl <;> rfl) (by decide) (by unfold maxLen; omega) (by omega) ?_; intro gx cx w5 hor u5 hO5))
  have h5 := hA.push (x := xMeta V.id V.nm V.L.length) rfl rfl rfl (Ans.nil _ _) (fun z e => by cases e) hor u5 hO5
  refine (HQT.out (by rw [HX.out]) w5 a c q d _ _ _ (xs ++ [xMeta V.id V.nm V.L.length]) ?_ ?_).1
  · rw [HX.out]; exact map_one HT.out _ _ rfl
  · rw [HX.out]; exact h5
end
end Go.Proofs.Ytnimehkfnpepfaa
