import Derived.Test.YtnimehkfnpepfaaTk24
import Derived.Test.YtnimehkfnpepfaaTk10
import Derived.Test.YtnimehkfnpepfaaTk4
import Derived.Test.YtnimehkfnpepfaaTk7
import Derived.Test.YtnimehkfnpepfaaTk9
import Derived.Test.YtnimehkfnpepfaaTk6
namespace Go.Proofs.Ytnimehkfnpepfaa
open Go.RowKit
set_option maxRecDepth 100000
set_option linter.unusedVariables false
set_option linter.unusedSimpArgs false

section
/-- a file into which j bytes of a piece were laid -/
def dcL (L D : List Nat) (F : Nat → Int × Int) (m x n j : Nat) : List Nat := (List.range n).map (fun i => if (cvB F i m = false ∧ x ≤ i ∧ i < x + j) then nth D (i - x) else nth L i)
theorem dcL_len (L D : List Nat) (F : Nat → Int × Int) (m x n j : Nat) : (dcL L D F m x n j).length = n := by unfold dcL; simp
theorem dcL_nth (L D : List Nat) (F : Nat → Int × Int) (m x n j : Nat) {i : Nat} (hi : i < n) : nth (dcL L D F m x n j) i = if (cvB F i m = false ∧ x ≤ i ∧ i < x + j) then nth D (i - x) else nth L i := by unfold dcL; exact nth_map_range _ _ _ hi
theorem dcL_isB {L D : List Nat} {F : Nat → Int × Int} {m x n j : Nat} (hL : IsB L) (hD : IsB D) : IsB (dcL L D F m x n j) := by
  intro y hy
  unfold dcL at hy
  obtain ⟨i, _, rfl⟩ := List.mem_map.1 hy
  by_cases e : (cvB F i m = false ∧ x ≤ i ∧ i < x + j)
  · rw [if_pos e]; exact hD.nth _
  · rw [if_neg e]; exact hL.nth _
theorem dcL_skip {L D : List Nat} {F : Nat → Int × Int} {m x n j : Nat} (h : cvB F (x + j) m = true) : dcL L D F m x n (j + 1) = dcL L D F m x n j := by
  refine ext_nth (by rw [dcL_len, dcL_len]) (fun i hi => ?_)
  rw [dcL_len] at hi
  rw [dcL_nth _ _ _ _ _ _ _ hi, dcL_nth _ _ _ _ _ _ _ hi]
  by_cases e : i = x + j
  · subst e
    rw [if_neg (fun e => by rw [h] at e; cases e.1), if_neg (fun e => by rw [h] at e; cases e.1)]
  · by_cases c : (cvB F i m = false ∧ x ≤ i ∧ i < x + j)
    · rw [if_pos ⟨c.1, c.2.1, by omega⟩, if_pos c]
    · rw [if_neg (fun c2 => c ⟨c2.1, c2.2.1, by omega⟩), if_neg c]
theorem dcL_set {L D : List Nat} {F : Nat → Int × Int} {m x n j : Nat} (h : cvB F (x + j) m = false) (hn : x + j < n) : (dcL L D F m x n j).set (x + j) (nth D j) = dcL L D F m x n (j + 1) := by
  refine ext_nth (by rw [List.length_set, dcL_len, dcL_len]) (fun i hi => ?_)
  rw [List.length_set, dcL_len] at hi
  rw [nth_set _ _ _ _ (by rw [dcL_len]; exact hn), dcL_nth _ _ _ _ _ _ _ hi, dcL_nth _ _ _ _ _ _ _ hi]
  by_cases e : x + j = i
  · subst e
    rw [if_pos rfl, if_pos ⟨h, by omega, by omega⟩]
    congr 1
    omega
  · rw [if_neg e]
    by_cases c : (cvB F i m = false ∧ x ≤ i ∧ i < x + j)
    · rw [if_pos c, if_pos ⟨c.1, c.2.1, by omega⟩]
    · rw [if_neg c, if_neg (fun c2 => c ⟨c2.1, c2.2.1, by omega⟩)]
theorem dcL_zero {L D : List Nat} {F : Nat → Int × Int} {m x n : Nat} (hL : L.length ≤ n) : splN (List.replicate n 0) 0 (L.take L.length) = dcL L D F m x n 0 := by
  rw [List.take_length]
  have hf : 0 + L.length ≤ (List.replicate n 0).length := by rw [List.length_replicate]; omega
  refine ext_nth (by rw [splN_len hf, dcL_len, List.length_replicate]) (fun i hi => ?_)
  rw [splN_len hf, List.length_replicate] at hi
  have e2 : nth (dcL L D F m x n 0) i = nth L i := by rw [dcL_nth _ _ _ _ _ _ _ hi, if_neg (fun c => by omega)]
  rw [splN_nth hf, e2]
  by_cases c : 0 ≤ i ∧ i < 0 + L.length
  · rw [if_pos c, Nat.sub_zero]
  · rw [if_neg c, nth_zeros, nth_out L i (by omega)]
theorem dcL_la (L D : List Nat) (F : Nat → Int × Int) (m x : Nat) : dcL L D F m x (max L.length (x + D.length)) D.length = laL L D F m x := rfl
theorem Ans.blk {w : World} {lo g n : Nat} {L : List Nat} (h : Ans w lo (some ⟨g, 0, none⟩) n n L) : Blk w g L := by
  rcases h.own.2 with ⟨h1, _⟩ | ⟨g', cap', cur, h1, h2, h3, h4, h5, h6, h7⟩
  · simp at h1
  · simp only [Value.slice.injEq, Option.some.injEq, Addr.mk.injEq] at h1
    obtain ⟨⟨rfl, _⟩, _, rfl⟩ := h1
    rw [Nat.mul_one, List.take_of_length_le (by rw [Array.length_toList]; omega)] at h7
    show w.heap[g]? = some (.cells (bys L).toArray _)
    rw [← h7]
    exact h3

set_option maxHeartbeats 32000000 in
theorem rl_t4 {u0 u1 u6 u7 u8 u9 u10 u11 u12 u13 u14 u15 u16 u17 u18 u19 u20 u21 u22 u23 u24 u25 u26 u27 u28 u29 u30 u31 u32 u33 u34 u35 u36 u37 u38 u39 u40 u41 u42 u43 u44 u45 u46 u47 u48 u49 u50 u51 u52 u53 u54 u55 u56 u57 u58 u59 u60 u61 u62 u63 u64 u65 u66 u67 u68 u69 u70 u71 u72 u73 : Value} (P : Ending → World → Prop) (w0 w : World) (V : Tv) (a q : Option Addr) (c d : Nat) (kd nid : Int) (nm2 : ByteArray) (si2 su2 : Int) (pa2 : Option Addr) (pn pc : Nat) (ga : Option Addr) (gm gd : Nat) (o co : Int) (x n : Nat) (D : List Nat) (b2 : BxS w w0.heap.size 48 #[.int .i64 V.id, .bool V.kn, .string V.nm, .int .i64 V.si, .bool V.en, .int .i64 V.la, .int .i64 V.su, .slice q V.G.length d, .slice a V.L.length c, .int .i64 V.st, .int .i64 V.ti, .int .i64 V.pa, .int .i64 V.tr, .int .i64 V.li]) (b3 : BxS w (w0.heap.size + 1) 27 #[.int .i64 kd, .int .i64 nid, .string nm2, .int .i64 si2, .int .i64 su2, .int .i64 (x : Int), .slice pa2 pn pc, .slice ga gm gd, .int .i64 o, .int .i64 co]) (b4 : BxS w (w0.heap.size + 2) 48 #[.int .i64 0, .bool false, .string ⟨#[]⟩, .int .i64 0, .bool false, .int .i64 0, .int .i64 0, .slice none 0 0, .slice none 0 0, .int .i64 0, .int .i64 0, .int .i64 0, .int .i64 0, .int .i64 0]) (g0 : w0.grownBy w none) (hz : w0.heap.size + 3 ≤ w.heap.size) (hL : Rd w0 a V.L.length c V.L) (hG : RdG w0 q V.G.length d (giF V.G)) (hD : Rd w0 pa2 pn pc D) (hn : n ≤ 65536) (hLn : V.L.length ≤ n) (hxn : x + pn ≤ n) (hri : Rise (giF V.G) V.G.length) (hgl : V.G.length ≤ 65536) (hrw : rwN (fun i => cvB (giF V.G) i V.G.length || decide ((x : Int) ≤ (i : Int) ∧ (i : Int) < ((x + pn : Nat) : Int))) true n = (wiL (giF V.G) (x : Int) ((x + pn : Nat) : Int) V.G.length)) (hla : dcL V.L D (giF V.G) V.G.length x n pn = (laL V.L D (giF V.G) V.G.length x))
    (hP : ∀ w' a' q' d', Ans w' w0.heap.size a' n n (laL V.L D (giF V.G) V.G.length x) → OwGi w' w0.heap.size q' (wiL (giF V.G) (x : Int) ((x + pn : Nat) : Int) V.G.length).length d' (wiL (giF V.G) (x : Int) ((x + pn : Nat) : Int) V.G.length) → w0.grownBy w' none → P (.returned (.agg #[.int .i64 V.id, .bool V.kn, .string V.nm, .int .i64 V.si, .bool V.en, .int .i64 V.la, .int .i64 V.su, .slice q' (wiL (giF V.G) (x : Int) ((x + pn : Nat) : Int) V.G.length).length d', .slice a' n n, .int .i64 V.st, .int .i64 V.ti, .int .i64 V.pa, .int .i64 V.tr, .int .i64 V.li])) w') :
    Code.wp Try.prog (tailR 4 (Try.f73.body.getD .skip)) (bodyPost Try.prog Try.f73 P) (Act.mk (List.toArray (u0 :: u1 :: (.pointer (some ⟨w0.heap.size, 0, none⟩)) :: (.pointer (some ⟨w0.heap.size + 1, 0, none⟩)) :: (.pointer (some ⟨w0.heap.size + 2, 0, none⟩)) :: (.int .i64 (n : Int)) :: u6 :: u7 :: u8 :: u9 :: u10 :: u11 :: u12 :: u13 :: u14 :: u15 :: u16 :: u17 :: u18 :: u19 :: u20 :: u21 :: u22 :: u23 :: u24 :: u25 :: u26 :: u27 :: u28 :: u29 :: u30 :: u31 :: u32 :: u33 :: u34 :: u35 :: u36 :: u37 :: u38 :: u39 :: u40 :: u41 :: u42 :: u43 :: u44 :: u45 :: u46 :: u47 :: u48 :: u49 :: u50 :: u51 :: u52 :: u53 :: u54 :: u55 :: u56 :: u57 :: u58 :: u59 :: u60 :: u61 :: u62 :: u63 :: u64 :: u65 :: u66 :: u67 :: u68 :: u69 :: u70 :: u71 :: u72 :: u73 :: [])) []) w := by
  conv => enter [2]; whnf
  have HP : Hid _ := hP
  clear hP
  have i14 := Try.info_tk
  have hbL := hL.byte
  have hbD := hD.byte
  have hDl := hD.len
  have HRW : Hid _ := hrw
  have HLA : Hid _ := hla
  have HDL : Hid _ := hDl
  have HRI : Hid _ := hri
  clear hrw hla hDl hri
  generalize (wiL (giF V.G) (x : Int) ((x + pn : Nat) : Int) V.G.length) = X at HRW HP
  generalize (laL V.L D (giF V.G) V.G.length x) = LA at HLA HP
  have x7 : w.cell? ⟨w0.heap.size, 7, none⟩ = some (.slice q V.G.length d) := b2.cell 7 (by show 7 < 14; decide)
  refine wp_seq_k fun K1 hK1 => ?_
  have HK1 : Hid _ := hK1
  clear hK1
  go_wp2_with (go_at_call 75; refine (has_any q V.G.length d n (giF V.G) w (hG.keep g0) HRI.out (by omega) (by omega)).mono ?_; rintro e w2 ⟨gC, rfl, hgC, hC, y2⟩)
  refine HK1.out _ _ ?_
  clear HK1
  have G2 := grown_trans g0 y2
  refine wp_seq_k fun K1 hK1 => ?_
  have HK1 : Hid _ := hK1
  clear hK1
  have s0 : True := trivial
  go_wp2_with (have _t := s0; clear s0; refine wpList_mkB w2 rfl _ _ rfl (n : Int) (n : Int) n rfl rfl rfl rfl (by omega) ?_; intro w3 hF3 y3)
  refine HK1.out _ _ ?_
  clear HK1
  have G3 := grown_trans G2 y3
  have hC3 := hC.keep y3
  have hgF : w2.heap.size ≤ w2.heap.size := Nat.le_refl _
  obtain ⟨gF, hgF⟩ : ∃ gF, w2.heap.size = gF := ⟨_, rfl⟩
  rw [hgF] at hF3 ⊢
  have lC := BxS.lt hC
  have hCF : gC < gF := by omega
  have hz2 := y2.size
  have hF0 : w0.heap.size + 3 ≤ gF := by omega
  have hC0 : w0.heap.size + 3 ≤ gC := by omega
  have y23 := y2
  clear hgF lC hC hgC
  have b23 := (b2.keep y2 (by simp)).keep y3 (by simp)
  have b33 := (b3.keep y2 (by simp)).keep y3 (by simp)
  have b43 := (b4.keep y2 (by simp)).keep y3 (by simp)
  clear b2 b3 b4 x7 y2 y23
  have x8 : w3.cell? ⟨w0.heap.size, 8, none⟩ = some (.slice a V.L.length c) := b23.cell 8 (by show 8 < 14; decide)
  have hA3 : Ans w3 0 (some ⟨gF, 0, none⟩) n n (List.replicate n 0) := by
    have := hF3.ans (n := n) (lo := 0) (fun x hx => by rw [(List.mem_replicate.1 hx).2]; decide) (by rw [List.length_replicate]; omega) (by rw [List.length_replicate]; unfold maxLen; omega) (Nat.zero_le _)
    rw [List.length_replicate, List.take_of_length_le (by rw [List.length_replicate]; omega)] at this
    exact this
  refine wp_seq_k fun K1 hK1 => ?_
  have HK1 : Hid _ := hK1
  clear hK1
  have s0 : True := trivial
  go_wp2_with (have _t := s0; clear s0; refine wpList_cpA rfl _ _ rfl gF n n 0 (List.replicate n 0) hA3 (some ⟨gF, 0, none⟩) n n rfl a V.L.length c V.L rfl (hL.keep G3) 0 V.L.length (by omega) (fun _ => rfl) (by omega) ?_; intro w4 hA4 u4)
  refine HK1.out _ _ ?_
  clear HK1
  rw [dcL_zero (D := D) (F := giF V.G) (m := V.G.length) (x := x) hLn] at hA4
  have hF4 := hA4.blk
  have tF : ∃ cs, BxS w3 gF 5 cs := ⟨_, hF3⟩
  obtain ⟨csF, tF⟩ := tF
  have hC4 : BoR w4 gC n (fun i => cvB (giF V.G) i V.G.length || decide ((x : Int) ≤ (i : Int) ∧ (i : Int) < ((x + 0 : Nat) : Int))) := by
    have h1 : BoR w4 gC n (fun i => cvB (giF V.G) i V.G.length) := BxS.keep hC3 u4 (fun e => by have e := Option.some.inj e; omega)
    exact h1.cong (fun i hi => by rw [decide_eq_false (by omega), Bool.or_false])
  have b24 := b23.keep u4 (fun e => BxS.apart b23 tF (by decide) (Option.some.inj e))
  have b34 := b33.keep u4 (fun e => BxS.apart b33 tF (by decide) (Option.some.inj e))
  have b44 := b43.keep u4 (fun e => BxS.apart b43 tF (by decide) (Option.some.inj e))
  have G4 := grown_far G3 u4 (fun z e => by have e := Option.some.inj e; omega)
  clear b23 b33 b43 tF u4 hA4 hA3 hF3 hC3 x8 y3 G3 G2 g0
  refine wp_seq_k fun K1 hK1 => ?_
  have HK1 : Hid _ := hK1
  clear hK1
  go_wp2
  go_loopw [8] (fun iv wr => ∃ (j : Nat), j ≤ pn ∧ iv = .int .i64 (j : Int) ∧ Blk wr gF (dcL V.L D (giF V.G) V.G.length x n j) ∧ BoR wr gC n (fun i => cvB (giF V.G) i V.G.length || decide ((x : Int) ≤ (i : Int) ∧ (i : Int) < ((x + j : Nat) : Int))) ∧ BxS wr w0.heap.size 48 #[.int .i64 V.id, .bool V.kn, .string V.nm, .int .i64 V.si, .bool V.en, .int .i64 V.la, .int .i64 V.su, .slice q V.G.length d, .slice a V.L.length c, .int .i64 V.st, .int .i64 V.ti, .int .i64 V.pa, .int .i64 V.tr, .int .i64 V.li] ∧ BxS wr (w0.heap.size + 1) 27 #[.int .i64 kd, .int .i64 nid, .string nm2, .int .i64 si2, .int .i64 su2, .int .i64 (x : Int), .slice pa2 pn pc, .slice ga gm gd, .int .i64 o, .int .i64 co] ∧ BxS wr (w0.heap.size + 2) 48 #[.int .i64 0, .bool false, .string ⟨#[]⟩, .int .i64 0, .bool false, .int .i64 0, .int .i64 0, .slice none 0 0, .slice none 0 0, .int .i64 0, .int .i64 0, .int .i64 0, .int .i64 0, .int .i64 0] ∧ w0.grownBy wr none) (fun iv _ => pn - (intOf iv).toNat)
  case atStart => exact ⟨0, Nat.zero_le _, rfl, hF4, hC4, b24, b34, b44, G4⟩
  case round =>
    obtain ⟨j, hj, rfl, hF, hC, b2r, b3r, b4r, Gr⟩ := hrel
    have n6 : wr.cell? ⟨w0.heap.size + 1, 6, none⟩ = some (.slice pa2 pn pc) := b3r.cell 6 (by show 6 < 10; decide)
    by_cases hlt : j < pn
    · have lj : (j : Int) < (pn : Int) := by omega
      have n5 : wr.cell? ⟨w0.heap.size + 1, 5, none⟩ = some (.int .i64 (x : Int)) := b3r.cell 5 (by show 5 < 10; decide)
      have hwj : IntKind.i64.wrap ((x : Int) + (j : Int)) = ((x + j : Nat) : Int) := by rw [show (x : Int) + (j : Int) = ((x + j : Nat) : Int) by omega]; exact wrap_i64_in _ (by omega) (by omega)
      have hcc := hC.cell (i := x + j) (by omega)
      have hce : (cvB (giF V.G) (x + j) V.G.length || decide ((x : Int) ≤ ((x + j : Nat) : Int) ∧ ((x + j : Nat) : Int) < ((x + j : Nat) : Int))) = cvB (giF V.G) (x + j) V.G.length := by rw [decide_eq_false (by omega), Bool.or_false]
      have hcc : wr.cell? ⟨gC, x + j, none⟩ = some (.bool (cvB (giF V.G) (x + j) V.G.length)) := by rw [← hce]; exact hcc
      have HSK : Hid (cvB (giF V.G) (x + j) V.G.length = true → (dcL V.L D (giF V.G) V.G.length x n (j + 1)) = (dcL V.L D (giF V.G) V.G.length x n j)) := fun h => dcL_skip h
      have HST : Hid (cvB (giF V.G) (x + j) V.G.length = false → (dcL V.L D (giF V.G) V.G.length x n j).set (x + j) (nth D j) = (dcL V.L D (giF V.G) V.G.length x n (j + 1))) := fun h => dcL_set h (by omega)
      obtain ⟨z, hzz⟩ : ∃ z, x + j = z := ⟨_, rfl⟩
      have hCF2 : ∀ wz, BoR wz gC n (fun k => if k = z then true else (fun i => cvB (giF V.G) i V.G.length || decide ((x : Int) ≤ (i : Int) ∧ (i : Int) < ((x + j : Nat) : Int))) k) → BoR wz gC n (fun i => cvB (giF V.G) i V.G.length || decide ((x : Int) ≤ (i : Int) ∧ (i : Int) < ((x + (j + 1) : Nat) : Int))) := fun wz h => h.cong (fun i hi => by
        by_cases e : i = z
        · subst e; rw [if_pos rfl, decide_eq_true (by omega), Bool.or_true]
        · rw [if_neg e]
          dsimp only
          congr 1
          exact decide_eq_decide.2 (by omega))
      have HC2 : Hid _ := hCF2
      have HCT0 : (cvB (giF V.G) z V.G.length = true → BoR wr gC n (fun i => cvB (giF V.G) i V.G.length || decide ((x : Int) ≤ (i : Int) ∧ (i : Int) < ((x + (j + 1) : Nat) : Int)))) := fun h => hC.cong (fun i hi => by
        by_cases e : i = z
        · subst e; rw [h]; rfl
        · congr 1
          exact decide_eq_decide.2 (by omega))
      have HCT : Hid _ := HCT0
      clear HCT0
      have hDr := hD.keep Gr
      obtain ⟨pb, po, rfl, hpb, hpc⟩ := hDr.at' (by omega)
      have hpj := hpc j hlt
      have hzn : z < n := by omega
      have hple := hDr.le
      obtain ⟨vb, hvb⟩ : ∃ vb, nth D j = vb := ⟨_, rfl⟩
      rw [hvb] at hpj HST
      rw [hzz] at hwj hcc HSK HST
      have hFc : ∃ u, wr.cell? ⟨gF, z, none⟩ = some u := ⟨_, hF.cell z (by rw [dcL_len]; exact hzn)⟩
      obtain ⟨uF, hFc⟩ := hFc
      have hFf := hF.free z
      have hFs := hF.set z vb
      have hFu := grown_set wr gF z (.int .u8 (vb : Int))
      clear hvb hzz hce hCF2 hpc hpb hDr
      have lz : (z : Int) < (n : Int) := by omega
      have z0 : (0 : Int) ≤ (z : Int) := by omega
      refine wp_seq_k fun K2 hK2 => ?_
      have HK2 : Hid _ := hK2
      clear hK2
      go_wp2
      refine HK2.out _ _ ?_
      clear HK2
      refine wp_seq_k fun K2 hK2 => ?_
      have HK2 : Hid _ := hK2
      clear hK2
      refine wp_block ?_
      refine wp_seq_k fun K3 hK3 => ?_
      have HK3 : Hid _ := hK3
      clear hK3
      cases hcb : cvB (giF V.G) z V.G.length with
      | true =>
        rw [hcb] at hcc
        go_wp2
        refine HK3.out _ _ ?_
        clear HK3
        refine wp_cond_false rfl ?_
        refine wp_skip ?_
        try simp only [Exit.inBlock, Exit.then]
        refine HK2.out _ _ ?_
        clear HK2
        clear n5 n6 hcc
        go_wp2
        go_roundw
        case rel => exact ⟨j + 1, by omega, by go_num, by rw [HSK.out hcb]; exact hF, HCT.out hcb, b2r, b3r, b4r, Gr⟩
        case measure => simp [intOf] <;> omega
      | false =>
        rw [hcb] at hcc
        go_wp2
        refine HK3.out _ _ ?_
        clear HK3
        refine wp_cond_true rfl ?_
        clear hcc n5 n6
        refine wp_seq_k fun K3 hK3 => ?_
        have HK3 : Hid _ := hK3
        clear hK3
        have Gd := grown_drew wr none
        have SS : BxS wr.drew (w0.heap.size + 1) 27 #[.int .i64 kd, .int .i64 nid, .string nm2, .int .i64 si2, .int .i64 su2, .int .i64 (x : Int), .slice (some ⟨pb, po, none⟩) pn pc, .slice ga gm gd, .int .i64 o, .int .i64 co] ∧ wr.drew.cell? ⟨pb, po + j, none⟩ = some (.int .u8 (vb : Int)) := ⟨b3r.keep Gd (by simp), hpj⟩
        have hFcd : wr.drew.cell? ⟨gF, z, none⟩ = some uF := hFc
        have hFfd : wr.drew.frozen? ⟨gF, z, none⟩ = false := hFf
        have hFd : Blk wr.drew gF (dcL V.L D (giF V.G) V.G.length x n j) := hF.grown Gd (by simp)
        have hCd := hC.keep Gd
        have b2d := b2r.keep Gd (by simp)
        have b4d := b4r.keep Gd (by simp)
        have Gdr := grown_trans Gr Gd
        clear hFc hFf hFs hFu hF hC b2r b4r b3r Gr
        refine wp_regionL (fun wz => BxS wz (w0.heap.size + 1) 27 #[.int .i64 kd, .int .i64 nid, .string nm2, .int .i64 si2, .int .i64 su2, .int .i64 (x : Int), .slice (some ⟨pb, po, none⟩) pn pc, .slice ga gm gd, .int .i64 o, .int .i64 co] ∧ wz.cell? ⟨pb, po + j, none⟩ = some (.int .u8 (vb : Int))) [11] #[false, false, false, false, false, false, false, false, false, false, false, false] rfl (by kernel_rfl) ?_
        generalize wr.drew = w5 at *
        refine wpAnyZ_take [11] 0 (.slice (some ⟨gF, 0, none⟩) n n) rfl (by kernel_rfl) (fun _ _ _ h => h) SS rfl (by intro wz hz; go_simp) ?_
        try simp only [List.getElem_toArray, List.getElem_cons_succ, List.getElem_cons_zero, Act.put, List.setIfInBounds_toArray, List.set_cons_zero, List.set_cons_succ]
        refine wpAnyZ_take [11] 1 (.pointer (some ⟨w0.heap.size + 1, 5, none⟩)) rfl (by kernel_rfl) (fun _ _ _ h => h) SS rfl (by intro wz hz; go_simp) ?_
        try simp only [List.getElem_toArray, List.getElem_cons_succ, List.getElem_cons_zero, Act.put, List.setIfInBounds_toArray, List.set_cons_zero, List.set_cons_succ]
        refine wpAnyZ_take [11] 2 (.int .i64 (x : Int)) rfl (by kernel_rfl) (fun _ _ _ h => h) SS rfl (by rintro wz ⟨hz, hz2⟩; have z : wz.cell? ⟨w0.heap.size + 1, 5, none⟩ = some (.int .i64 (x : Int)) := hz.cell 5 (by show 5 < 10; decide); go_simp) ?_
        try simp only [List.getElem_toArray, List.getElem_cons_succ, List.getElem_cons_zero, Act.put, List.setIfInBounds_toArray, List.set_cons_zero, List.set_cons_succ]
        refine wpAnyZ_take [11] 3 (.int .i64 (j : Int)) rfl (by kernel_rfl) (fun _ _ _ h => h) SS rfl (by intro wz hz; go_simp) ?_
        try simp only [List.getElem_toArray, List.getElem_cons_succ, List.getElem_cons_zero, Act.put, List.setIfInBounds_toArray, List.set_cons_zero, List.set_cons_succ]
        refine wpAnyZ_take [11] 4 (.int .i64 (z : Int)) rfl (by kernel_rfl) (fun _ _ _ h => h) SS rfl (by intro wz hz; go_simp) ?_
        try simp only [List.getElem_toArray, List.getElem_cons_succ, List.getElem_cons_zero, Act.put, List.setIfInBounds_toArray, List.set_cons_zero, List.set_cons_succ]
        refine wpAnyZ_take [11] 5 (.pointer (some ⟨w0.heap.size + 1, 6, none⟩)) rfl (by kernel_rfl) (fun _ _ _ h => h) SS rfl (by intro wz hz; go_simp) ?_
        try simp only [List.getElem_toArray, List.getElem_cons_succ, List.getElem_cons_zero, Act.put, List.setIfInBounds_toArray, List.set_cons_zero, List.set_cons_succ]
        refine wpAnyZ_take [11] 6 (.slice (some ⟨pb, po, none⟩) pn pc) rfl (by kernel_rfl) (fun _ _ _ h => h) SS rfl (by rintro wz ⟨hz, hz2⟩; have z : wz.cell? ⟨w0.heap.size + 1, 6, none⟩ = some (.slice (some ⟨pb, po, none⟩) pn pc) := hz.cell 6 (by show 6 < 10; decide); go_simp) ?_
        try simp only [List.getElem_toArray, List.getElem_cons_succ, List.getElem_cons_zero, Act.put, List.setIfInBounds_toArray, List.set_cons_zero, List.set_cons_succ]
        refine wpAnyZ_take [11] 7 (.int .i64 (j : Int)) rfl (by kernel_rfl) (fun _ _ _ h => h) SS rfl (by intro wz hz; go_simp) ?_
        try simp only [List.getElem_toArray, List.getElem_cons_succ, List.getElem_cons_zero, Act.put, List.setIfInBounds_toArray, List.set_cons_zero, List.set_cons_succ]
        have j0 : (0 : Int) ≤ (j : Int) := by omega
        refine wpAnyZ_take [11] 8 (.pointer (some ⟨pb, po + j, none⟩)) rfl (by kernel_rfl) (fun _ _ _ h => h) SS rfl (by intro wz hz; go_simp) ?_
        try simp only [List.getElem_toArray, List.getElem_cons_succ, List.getElem_cons_zero, Act.put, List.setIfInBounds_toArray, List.set_cons_zero, List.set_cons_succ]
        refine wpAnyZ_take [11] 9 (.int .u8 (vb : Int)) rfl (by kernel_rfl) (fun _ _ _ h => h) SS rfl (by rintro wz ⟨hz, hz2⟩; go_simp) ?_
        try simp only [List.getElem_toArray, List.getElem_cons_succ, List.getElem_cons_zero, Act.put, List.setIfInBounds_toArray, List.set_cons_zero, List.set_cons_succ]
        refine wpAnyZ_take [11] 10 (.pointer (some ⟨gF, z, none⟩)) rfl (by kernel_rfl) (fun _ _ _ h => h) SS rfl (by intro wz hz; go_simp) ?_
        try simp only [List.getElem_toArray, List.getElem_cons_succ, List.getElem_cons_zero, Act.put, List.setIfInBounds_toArray, List.set_cons_zero, List.set_cons_succ]
        refine wpAnyZ_oneB 11 rfl (by kernel_rfl) (fun KK hKK => ?_)
        have hFs := hFd.set z vb
        have hFu := grown_set w5 gF z (.int .u8 (vb : Int))
        go_simp
        refine hKK _ _ (fun h => absurd (by decide) h) ?_
        try simp only [List.getElem_toArray, List.getElem_cons_succ, List.getElem_cons_zero, Act.put, List.setIfInBounds_toArray, List.set_cons_zero, List.set_cons_succ]
        generalize w5.setCell ⟨gF, z, none⟩ (.int .u8 (vb : Int)) = w6 at *
        have hC6 : BoR w6 gC n (fun i => cvB (giF V.G) i V.G.length || decide ((x : Int) ≤ (i : Int) ∧ (i : Int) < ((x + j : Nat) : Int))) := BxS.keep hCd hFu (fun e => by have e := Option.some.inj e; omega)
        have tF : BxS w5 gF 5 _ := hFd
        have b26 := b2d.keep hFu (fun e => BxS.apart b2d tF (by decide) (Option.some.inj e))
        have b36 := SS.1.keep hFu (fun e => BxS.apart SS.1 tF (by decide) (Option.some.inj e))
        have b46 := b4d.keep hFu (fun e => BxS.apart b4d tF (by decide) (Option.some.inj e))
        have G6 := grown_far Gdr hFu (fun z e => by have e := Option.some.inj e; omega)
        rw [HST.out hcb] at hFs
        refine wpAnyZ_doneB (by kernel_rfl) ?_ _
        refine HK3.out _ _ ?_
        clear HK3
        have hcc := hC6.cell hzn
        have hcf := BxS.free hC6 z
        have n5 : w6.cell? ⟨w0.heap.size + 1, 5, none⟩ = some (.int .i64 (x : Int)) := b36.cell 5 (by show 5 < 10; decide)
        have hCs := HC2.out _ (hC6.set z true)
        have hCu := grown_set w6 gC z (.bool true)
        go_wp2
        try simp only [Exit.inBlock, Exit.then]
        refine HK2.out _ _ ?_
        clear HK2
        generalize w6.setCell ⟨gC, z, none⟩ (.bool true) = w7 at *
        have tC : BxS w6 gC 4 _ := hC6
        have hF7 := hFs.grown hCu (fun e => by have e := Option.some.inj e; omega)
        have b27 := b26.keep hCu (fun e => BxS.apart b26 tC (by decide) (Option.some.inj e))
        have b37 := b36.keep hCu (fun e => BxS.apart b36 tC (by decide) (Option.some.inj e))
        have b47 := b46.keep hCu (fun e => BxS.apart b46 tC (by decide) (Option.some.inj e))
        have G7 := grown_far G6 hCu (fun z e => by have e := Option.some.inj e; omega)
        clear hcc hcf n5
        go_wp2
        go_roundw
        case rel => exact ⟨j + 1, by omega, by go_num, hF7, hCs, b27, b37, b47, G7⟩
        case measure => simp [intOf] <;> omega
    · obtain rfl : j = pn := by omega
      have lj : ¬ (j : Int) < (j : Int) := by omega
      go_wp2
      try simp only [Exit.inBlock, Exit.then]
      refine HK1.out _ _ ?_
      clear HK1
      rw [HLA.out] at hF
      have hlF : LA.length = n := by rw [← HLA.out, dcL_len]
      have hbF : IsB LA := by rw [← HLA.out]; exact dcL_isB hbL hbD
      have hAF : Ans wr w0.heap.size (some ⟨gF, 0, none⟩) n n LA := by
        have := hF.ans (n := n) (lo := w0.heap.size) hbF (by omega) (by unfold maxLen; omega) (by omega)
        rw [hlF, List.take_of_length_le (by omega)] at this
        exact this
      clear n6 hF lj
      refine wp_seq_k fun K1 hK1 => ?_
      have HK1 : Hid _ := hK1
      clear hK1
      have s0 : True := trivial
      go_wp2_with (have _t := s0; clear s0; refine wpList_stC _ rfl _ _ _ rfl w0.heap.size 8 48 _ #[.int .i64 V.id, .bool V.kn, .string V.nm, .int .i64 V.si, .bool V.en, .int .i64 V.la, .int .i64 V.su, .slice q V.G.length d, .slice (some ⟨gF, 0, none⟩) n n, .int .i64 V.st, .int .i64 V.ti, .int .i64 V.pa, .int .i64 V.tr, .int .i64 V.li] (.slice (some ⟨gF, 0, none⟩) n n) rfl rfl b2r (stc_sl _ _ _ _ _) (by show 8 < 14; decide) rfl ?_; intro w5 b25 u5)
      refine HK1.out _ _ ?_
      clear HK1
      have hA5 := hAF.kRR u5 (fun z e e2 => by have e := Option.some.inj e; subst e; exact own_ty hAF.own b2r (by decide) e2)
      have hC5 : BoR w5 gC n (fun i => cvB (giF V.G) i V.G.length || decide ((x : Int) ≤ (i : Int) ∧ (i : Int) < ((x + j : Nat) : Int))) := BxS.keep hC u5 (fun e => by have e := Option.some.inj e; omega)
      have b45 := b4r.keep u5 (fun e => by have e := Option.some.inj e; omega)
      have G5 := grown_far Gr u5 (fun z e => by have e := Option.some.inj e; omega)
      have kR := rowsIn_any gC n (fun i => cvB (giF V.G) i V.G.length || decide ((x : Int) ≤ (i : Int) ∧ (i : Int) < ((x + j : Nat) : Int))) true w5 hC5 (by omega)
      rw [HRW.out] at kR
      refine wp_seq_k fun K1 hK1 => ?_
      have HK1 : Hid _ := hK1
      clear hK1
      have s0 : True := trivial
      go_wp2_with (first
        | (go_at_call 74; have _t := s0; clear s0; refine kR.mono ?_; rintro e w6 ⟨q7, d7, rfl, hO6, y6⟩; have b26 := b25.keep y6 (by simp); have s1 : True := trivial)
        | (have _t := s1; clear s1; refine wpList_stC _ rfl _ _ _ rfl w0.heap.size 7 48 _ #[.int .i64 V.id, .bool V.kn, .string V.nm, .int .i64 V.si, .bool V.en, .int .i64 V.la, .int .i64 V.su, .slice q7 X.length d7, .slice (some ⟨gF, 0, none⟩) n n, .int .i64 V.st, .int .i64 V.ti, .int .i64 V.pa, .int .i64 V.tr, .int .i64 V.li] (.slice q7 X.length d7) rfl rfl b26 (stc_slG _ _ _ _ _) (by show 7 < 14; decide) rfl ?_; intro w7 b27 u7))
      refine HK1.out _ _ ?_
      clear HK1
      have z5 := G5.size
      have hA7 := (hA5.keep y6).kRR u7 (fun z e e2 => by have e := Option.some.inj e; subst e; exact own_ty (hA5.keep y6).own b26 (by decide) e2)
      have hO7 := (hO6.bx b26 (by decide) u7).wide z5
      have b47 := (b45.keep y6 (by simp)).keep u7 (fun e => by have e := Option.some.inj e; omega)
      have G7 := grown_far (grown_trans G5 y6) u7 (fun z e => by have e := Option.some.inj e; omega)
      have s0 : True := trivial
      go_wp2_with (first
        | (have _t := s0; clear s0; refine wpList_ldX _ rfl _ (.tmp 2) rfl w0.heap.size _ rfl b27 Try.underlying48 i14 ?_; have s3 : True := trivial)
        | (have _t := s3; clear s3; refine wpList_stX _ rfl _ (.tmp 4) (.tmp 73) rfl (w0.heap.size + 2) _ _ rfl rfl b47 i14 rfl (by simp [Value.oneCell']) ?_; intro w8 b48 u8))
      refine bodyPost_ret (results_cellN rfl _ _ _ ⟨w0.heap.size + 2, 0, none⟩ _ rfl (BxS.load (t := 48) b48 Try.underlying48 Try.info_tk)) rfl ?_
      exact HP.out w8 _ _ _ (hA7.kRR u8 (fun z e e2 => by have e := Option.some.inj e; subst e; exact own_ty hA7.own b47 (by decide) e2)) (hO7.bx b47 (by decide) u8) (grown_far G7 u8 (fun z e => by have e := Option.some.inj e; omega))
end

section
set_option maxHeartbeats 32000000 in
/-- the document's lay -/
theorem rlay_any (V : Tv) (a q : Option Addr) (c d : Nat) (kd nid : Int) (nm2 : ByteArray) (si2 su2 at2 : Int) (pa2 : Option Addr) (pn pc : Nat) (ga : Option Addr) (gm gd : Nat) (o co : Int) (x : Nat) (D : List Nat) (w : World) (hax : at2 = (x : Int)) (hL : Rd w a V.L.length c V.L) (hG : RdG w q V.G.length d (giF V.G)) (hD : Rd w pa2 pn pc D) (hp : 0 < pn) (hx : x + pn ≤ 65536) (ho : TvQ V) :
    Calls Try.prog 73 #[.agg (tkA V.id V.kn V.nm V.si V.en V.la V.su (.slice q V.G.length d) (.slice a V.L.length c) V.st V.ti V.pa V.tr V.li), .agg (ntA kd nid nm2 si2 su2 at2 (.slice pa2 pn pc) (.slice ga gm gd) o co)] w fun e w' => ∃ a' c' q' d', e = .returned (.agg (tkA V.id V.kn V.nm V.si V.en V.la V.su (.slice q' (wiL (giF V.G) (x : Int) ((x + D.length : Nat) : Int) V.G.length).length d') (.slice a' (laL V.L D (giF V.G) V.G.length x).length c') V.st V.ti V.pa V.tr V.li)) ∧ Ans w' w.heap.size a' (laL V.L D (giF V.G) V.G.length x).length c' (laL V.L D (giF V.G) V.G.length x) ∧ OwGi w' w.heap.size q' (wiL (giF V.G) (x : Int) ((x + D.length : Nat) : Int) V.G.length).length d' (wiL (giF V.G) (x : Int) ((x + D.length : Nat) : Int) V.G.length) ∧ w.grownBy w' none := by
  subst hax
  have hDl : D.length = pn := hD.len
  have hn9 := ho.n9
  have hrw := (wi_rows (F := giF V.G) (x := (x : Int)) (y := ((x + pn : Nat) : Int)) (m := V.G.length) ho.ri (by omega) (by omega) (max V.L.length (x + pn)) (fun k hk => by have := ho.ge k hk; omega) (by omega)).1
  have hla := dcL_la V.L D (giF V.G) V.G.length x
  rw [laL_len, hDl]
  rw [hDl] at hla
  have HRW : Hid _ := hrw
  have HLA : Hid _ := hla
  have HO : Hid _ := ho
  clear hla hrw ho hDl
  obtain ⟨y, hy⟩ : ∃ y, x + pn = y := ⟨_, rfl⟩
  have hwy : IntKind.i64.wrap ((x : Int) + (pn : Int)) = (y : Int) := by rw [show (x : Int) + (pn : Int) = (y : Int) by omega]; exact wrap_i64_in _ (by omega) (by omega)
  have HY : Hid _ := hy
  have hxy2 : y ≤ 65536 := by omega
  clear hy hx
  have b1 := BxS.new w 48 #[.int .i64 V.id, .bool V.kn, .string V.nm, .int .i64 V.si, .bool V.en, .int .i64 V.la, .int .i64 V.su, .slice q V.G.length d, .slice a V.L.length c, .int .i64 V.st, .int .i64 V.ti, .int .i64 V.pa, .int .i64 V.tr, .int .i64 V.li]
  have y1 := World.grownBy_alloc w (.cells #[.int .i64 V.id, .bool V.kn, .string V.nm, .int .i64 V.si, .bool V.en, .int .i64 V.la, .int .i64 V.su, .slice q V.G.length d, .slice a V.L.length c, .int .i64 V.st, .int .i64 V.ti, .int .i64 V.pa, .int .i64 V.tr, .int .i64 V.li] 48) none
  unfold tkA ntA
  have hz1 : (w.alloc (.cells #[.int .i64 V.id, .bool V.kn, .string V.nm, .int .i64 V.si, .bool V.en, .int .i64 V.la, .int .i64 V.su, .slice q V.G.length d, .slice a V.L.length c, .int .i64 V.st, .int .i64 V.ti, .int .i64 V.pa, .int .i64 V.tr, .int .i64 V.li] 48)).heap.size = w.heap.size + 1 := by simp
  generalize hw1 : w.alloc (.cells #[.int .i64 V.id, .bool V.kn, .string V.nm, .int .i64 V.si, .bool V.en, .int .i64 V.la, .int .i64 V.su, .slice q V.G.length d, .slice a V.L.length c, .int .i64 V.st, .int .i64 V.ti, .int .i64 V.pa, .int .i64 V.tr, .int .i64 V.li] 48) = w1 at b1 y1 hz1
  have b2 := BxS.new w1 27 #[.int .i64 kd, .int .i64 nid, .string nm2, .int .i64 si2, .int .i64 su2, .int .i64 (x : Int), .slice pa2 pn pc, .slice ga gm gd, .int .i64 o, .int .i64 co]
  have y2 := World.grownBy_alloc w1 (.cells #[.int .i64 kd, .int .i64 nid, .string nm2, .int .i64 si2, .int .i64 su2, .int .i64 (x : Int), .slice pa2 pn pc, .slice ga gm gd, .int .i64 o, .int .i64 co] 27) none
  have hz2 : (w1.alloc (.cells #[.int .i64 kd, .int .i64 nid, .string nm2, .int .i64 si2, .int .i64 su2, .int .i64 (x : Int), .slice pa2 pn pc, .slice ga gm gd, .int .i64 o, .int .i64 co] 27)).heap.size = w.heap.size + 2 := by simp [hz1]
  rw [hz1] at b2
  generalize hw2 : w1.alloc (.cells #[.int .i64 kd, .int .i64 nid, .string nm2, .int .i64 si2, .int .i64 su2, .int .i64 (x : Int), .slice pa2 pn pc, .slice ga gm gd, .int .i64 o, .int .i64 co] 27) = w2 at b2 y2 hz2
  have b3 := BxS.new w2 48 #[.int .i64 0, .bool false, .string ⟨#[]⟩, .int .i64 0, .bool false, .int .i64 0, .int .i64 0, .slice none 0 0, .slice none 0 0, .int .i64 0, .int .i64 0, .int .i64 0, .int .i64 0, .int .i64 0]
  have y3 := World.grownBy_alloc w2 (.cells #[.int .i64 0, .bool false, .string ⟨#[]⟩, .int .i64 0, .bool false, .int .i64 0, .int .i64 0, .slice none 0 0, .slice none 0 0, .int .i64 0, .int .i64 0, .int .i64 0, .int .i64 0, .int .i64 0] 48) none
  have hz3 : (w2.alloc (.cells #[.int .i64 0, .bool false, .string ⟨#[]⟩, .int .i64 0, .bool false, .int .i64 0, .int .i64 0, .slice none 0 0, .slice none 0 0, .int .i64 0, .int .i64 0, .int .i64 0, .int .i64 0, .int .i64 0] 48)).heap.size = w.heap.size + 3 := by simp [hz2]
  rw [hz2] at b3
  generalize hw3 : w2.alloc (.cells #[.int .i64 0, .bool false, .string ⟨#[]⟩, .int .i64 0, .bool false, .int .i64 0, .int .i64 0, .slice none 0 0, .slice none 0 0, .int .i64 0, .int .i64 0, .int .i64 0, .int .i64 0, .int .i64 0] 48) = w3 at b3 y3 hz3
  have b1 := (b1.keep y2 (by simp)).keep y3 (by simp)
  have b2 := b2.keep y3 (by simp)
  have G3 := grown_trans (grown_trans y1 y2) y3
  have x8 : w3.cell? ⟨w.heap.size, 8, none⟩ = some (.slice a V.L.length c) := b1.cell 8 (by show 8 < 14; decide)
  have n5 : w3.cell? ⟨w.heap.size + 1, 5, none⟩ = some (.int .i64 (x : Int)) := b2.cell 5 (by show 5 < 10; decide)
  have n6 : w3.cell? ⟨w.heap.size + 1, 6, none⟩ = some (.slice pa2 pn pc) := b2.cell 6 (by show 6 < 10; decide)
  go_enter Try.func73, Try.ntmps73
  refine wp_seq_k fun K1 hK1 => ?_
  have HK1 : Hid _ := hK1
  clear hK1
  go_wp2
  refine HK1.out _ _ ?_
  clear HK1
  clear hw1 hw2 hw3 y1 y2 y3 hz1 hz2
  have hz3 : w.heap.size + 3 ≤ w3.heap.size := by omega
  refine wp_seq_k fun K1 hK1 => ?_
  have HK1 : Hid _ := hK1
  clear hK1
  go_wp2
  refine HK1.out _ _ ?_
  clear HK1
  refine wp_seq_k fun K1 hK1 => ?_
  have HK1 : Hid _ := hK1
  clear hK1
  by_cases hgt : (V.L.length : Int) < (y : Int)
  · go_wp2
    try simp only [Exit.then]
    refine HK1.out _ _ ?_
    clear HK1
    have emx : max V.L.length (x + pn) = y := by have := HY.out; omega
    rw [emx] at HRW HLA ⊢
    refine rl_t4 _ w w3 V a q c d kd nid nm2 si2 su2 pa2 pn pc ga gm gd o co x y D b1 b2 b3 G3 hz3 hL hG hD (by omega) (by omega) (by have := HY.out; omega) HO.out.ri HO.out.gl HRW.out HLA.out ?_
    intro w' a' q' d' h1 h2 h3
    exact ⟨a', y, q', d', rfl, h1, h2, h3⟩
  · go_wp2
    try simp only [Exit.then]
    refine HK1.out _ _ ?_
    clear HK1
    have emx : max V.L.length (x + pn) = V.L.length := by have := HY.out; omega
    rw [emx] at HRW HLA ⊢
    refine rl_t4 _ w w3 V a q c d kd nid nm2 si2 su2 pa2 pn pc ga gm gd o co x V.L.length D b1 b2 b3 G3 hz3 hL hG hD (by omega) (Nat.le_refl _) (by have := HY.out; omega) HO.out.ri HO.out.gl HRW.out HLA.out ?_
    intro w' a' q' d' h1 h2 h3
    exact ⟨a', V.L.length, q', d', rfl, h1, h2, h3⟩
end
end Go.Proofs.Ytnimehkfnpepfaa
