import Derived.Test.YtnimehkfnpepfaaTk28
import Derived.Test.YtnimehkfnpepfaaTk30
import Derived.Test.YtnimehkfnpepfaaTk5
import Derived.Test.YtnimehkfnpepfaaTk18
import Derived.Test.YtnimehkfnpepfaaTk19
import Derived.Test.YtnimehkfnpepfaaTk4
import Derived.Test.YtnimehkfnpepfaaTk7
import Derived.Test.YtnimehkfnpepfaaTk9
import Derived.Test.YtnimehkfnpepfaaTk6
namespace Go.Proofs.Ytnimehkfnpepfaa
open Go.RowKit
set_option maxRecDepth 100000
set_option linter.unusedVariables false
set_option linter.unusedSimpArgs false

section
theorem OwN.twoN {w : World} {lo g : Nat} {x y : Nx} (hb : BxS w g 27 (x.arr ++ y.arr)) (hl : lo ≤ g) (xA : Ans w lo x.a x.da.length x.c x.da) (xO : OwGi w lo x.q x.ga.length x.d x.ga) (yA : Ans w lo y.a y.da.length y.c y.da) (yO : OwGi w lo y.q y.ga.length y.d y.ga) (sA : x.a = none) (sO : x.q = none) : OwN w lo (some ⟨g, 0, none⟩) 2 2 [x, y] := by
  refine ⟨⟨rfl, .inr ⟨g, 2, x.arr ++ y.arr, rfl, Nat.zero_le _, hb, Nat.le_refl _, by unfold maxLen; decide, rfl, ?_⟩⟩, rfl, (fun z e => by have e : g = z := Option.some.inj e; omega), (fun u hu => ?_), (fun u hu => ?_), ?_, ?_⟩
  · show (x.arr ++ y.arr).toList.take 20 = x.cells ++ (y.cells ++ [])
    rw [Array.toList_append, List.append_nil]
    rfl
  · rcases List.mem_cons.1 hu with e | e
    · rw [e]; exact xA
    · rw [List.mem_singleton.1 e]; exact yA
  · rcases List.mem_cons.1 hu with e | e
    · rw [e]; exact xO
    · rw [List.mem_singleton.1 e]; exact yO
  · refine List.pairwise_cons.2 ⟨fun u hu z e => ?_, List.pairwise_singleton _ _⟩
    rw [sA] at e
    cases e
  · refine List.pairwise_cons.2 ⟨fun u hu z e => ?_, List.pairwise_singleton _ _⟩
    rw [sO] at e
    cases e

set_option maxHeartbeats 32000000 in
theorem to_t11 {u0 u1 u2 u5 u6 u9 u10 u11 u12 u13 u14 u15 u16 u17 u18 u19 u20 u21 u22 u23 u24 u25 u26 u27 u28 u29 u30 u31 u32 u33 u34 u35 u36 u37 u38 u39 u40 u41 u42 u43 u44 u45 u46 u47 u48 u49 u50 u51 u52 u53 u54 u55 u56 u57 u58 u59 u60 u61 u62 u63 u64 u65 u66 u67 u68 u69 u70 u71 u72 u73 u74 u75 u76 u77 u78 u79 u80 u81 u82 u83 u84 u85 u86 u87 u88 u89 u90 u91 u92 u93 u94 u95 u96 u97 u98 u99 u100 u101 u102 u103 u104 u105 u106 u107 u108 u109 u110 u111 u112 u113 u114 u115 u116 u117 u118 u119 u120 u121 u122 u123 u124 u125 u126 u127 u128 u129 u130 u131 u132 u133 u134 u135 u136 u137 u138 u139 u140 u141 u142 u143 u144 u145 u146 u147 u148 u149 u150 u151 u152 u153 u154 u155 u156 u157 u158 u159 u160 u161 u162 u163 u164 u165 u166 u167 u168 u169 u170 u171 u172 u173 u174 u175 u176 u177 u178 u179 u180 u181 u182 : Value} (P : Ending → World → Prop) (wB w : World) (g4 g7 : Nat) (V : Tv) (a : Option Addr) (c : Nat) (q : Option Addr) (d : Nat) (h : DTk wB w g4 g7 V a c q d) (g3 g8 : Nat) (kd nid : Int) (nm2 : ByteArray) (si2 su2 : Int) (pa2 : Option Addr) (pn pc : Nat) (ga : Option Addr) (gm gd : Nat) (o co : Int) (x : Nat) (D : List Nat) (hD : Rd wB pa2 pn pc D) (b3 : BxS w g3 27 #[.int .i64 kd, .int .i64 nid, .string nm2, .int .i64 si2, .int .i64 su2, .int .i64 (x : Int), .slice pa2 pn pc, .slice ga gm gd, .int .i64 o, .int .i64 co]) (b8 : BxS w g8 27 #[.int .i64 6, .int .i64 V.id, .string ⟨#[]⟩, .int .i64 0, .int .i64 0, .int .i64 0, .slice none 0 0, .slice none 0 0, .int .i64 3, .int .i64 0]) (ho : TvQ V) (hst : V.st = 0 ∨ V.st = 3 ∨ V.st = 4) (hn : NtK kd si2 su2 (x : Int) pn o x)
    (hP : ∀ e w', RDk wB (heV V kd o nm2 si2 su2 x D).1 (heV V kd o nm2 si2 su2 x D).2 0 e w' → P e w') :
    Code.wp Try.prog (tailR 11 (Try.f36.body.getD .skip)) (bodyPost Try.prog Try.f36 P) (Act.mk (List.toArray (u0 :: u1 :: u2 :: (.pointer (some ⟨g3, 0, none⟩)) :: (.pointer (some ⟨g4, 0, none⟩)) :: u5 :: u6 :: (.pointer (some ⟨g7, 0, none⟩)) :: (.pointer (some ⟨g8, 0, none⟩)) :: u9 :: u10 :: u11 :: u12 :: u13 :: u14 :: u15 :: u16 :: u17 :: u18 :: u19 :: u20 :: u21 :: u22 :: u23 :: u24 :: u25 :: u26 :: u27 :: u28 :: u29 :: u30 :: u31 :: u32 :: u33 :: u34 :: u35 :: u36 :: u37 :: u38 :: u39 :: u40 :: u41 :: u42 :: u43 :: u44 :: u45 :: u46 :: u47 :: u48 :: u49 :: u50 :: u51 :: u52 :: u53 :: u54 :: u55 :: u56 :: u57 :: u58 :: u59 :: u60 :: u61 :: u62 :: u63 :: u64 :: u65 :: u66 :: u67 :: u68 :: u69 :: u70 :: u71 :: u72 :: u73 :: u74 :: u75 :: u76 :: u77 :: u78 :: u79 :: u80 :: u81 :: u82 :: u83 :: u84 :: u85 :: u86 :: u87 :: u88 :: u89 :: u90 :: u91 :: u92 :: u93 :: u94 :: u95 :: u96 :: u97 :: u98 :: u99 :: u100 :: u101 :: u102 :: u103 :: u104 :: u105 :: u106 :: u107 :: u108 :: u109 :: u110 :: u111 :: u112 :: u113 :: u114 :: u115 :: u116 :: u117 :: u118 :: u119 :: u120 :: u121 :: u122 :: u123 :: u124 :: u125 :: u126 :: u127 :: u128 :: u129 :: u130 :: u131 :: u132 :: u133 :: u134 :: u135 :: u136 :: u137 :: u138 :: u139 :: u140 :: u141 :: u142 :: u143 :: u144 :: u145 :: u146 :: u147 :: u148 :: u149 :: u150 :: u151 :: u152 :: u153 :: u154 :: u155 :: u156 :: u157 :: u158 :: u159 :: u160 :: u161 :: u162 :: u163 :: u164 :: u165 :: u166 :: u167 :: u168 :: u169 :: u170 :: u171 :: u172 :: u173 :: u174 :: u175 :: u176 :: u177 :: u178 :: u179 :: u180 :: u181 :: u182 :: [])) []) w := by
  conv => enter [2]; whnf
  have HP : Hid _ := hP
  clear hP
  have i14 := Try.info_tk
  have i10 := Try.info_nt
  have y9 : w.cell? ⟨g7, 9, none⟩ = some (.int .i64 V.st) := h.b5.cell 9 (by show 9 < 14; decide)
  have y0 : w.cell? ⟨g3, 0, none⟩ = some (.int .i64 kd) := b3.cell 0 (by show 0 < 10; decide)
  have y8 : w.cell? ⟨g3, 8, none⟩ = some (.int .i64 o) := b3.cell 8 (by show 8 < 10; decide)
  have HN : Hid _ := hn
  have HO : Hid _ := ho
  clear hn ho
  refine wp_seq_k fun K1 hK1 => ?_
  have HK1 : Hid _ := hK1
  clear hK1
  rcases hst with hs | hs | hs
  · have HX : (heV V kd o nm2 si2 su2 x D) = heG V kd nm2 si2 su2 x D := by unfold heV; rw [if_neg (by omega), if_neg (by omega)]
    rw [HX] at HP
    rw [hs] at y9
    have HS : Hid _ := hs
    clear hs HX
    go_wp2
    try simp only [Exit.then]
    refine HK1.out _ _ ?_
    clear HK1
    clear y0 y8
    refine wp_seq_k fun K1 hK1 => ?_
    have HK1 : Hid _ := hK1
    clear hK1
    go_wp2
    try simp only [Exit.then]
    refine HK1.out _ _ ?_
    clear HK1
    exact to_t22 P wB w g4 g7 V a c q d h g3 g8 kd nid nm2 si2 su2 pa2 pn pc ga gm gd o co x D hD b3 b8 HO.out HS.out HN.out (fun e w' kk => HP.out e w' kk)
  · have HX : (heV V kd o nm2 si2 su2 x D) = (if kd = 3 then (V, [ntSeen V.id, ntDone V.id 0]) else if o = 5 then ({ V with ti := 0, tr := V.li }, []) else (V, [])) := by unfold heV; rw [if_neg (by omega), if_pos hs]
    rw [HX] at HP
    rw [hs] at y9
    clear hs HX
    go_wp2
    try simp only [Exit.then]
    refine HK1.out _ _ ?_
    clear HK1
    refine wp_seq_k fun K1 hK1 => ?_
    have HK1 : Hid _ := hK1
    clear hK1
    refine wp_seq_k fun K2 hK2 => ?_
    have HK2 : Hid _ := hK2
    clear hK2
    go_wp2
    refine HK2.out _ _ ?_
    clear HK2
    refine wp_cond_true rfl ?_
    clear HK1 y9
    by_cases hk : kd = 3
    · rw [if_pos hk] at HP
      rw [hk] at y0
      clear hk
      refine wp_seq_k fun K2 hK2 => ?_
      have HK2 : Hid _ := hK2
      clear hK2
      refine wp_seq_k fun K3 hK3 => ?_
      have HK3 : Hid _ := hK3
      clear hK3
      go_wp2
      refine HK3.out _ _ ?_
      clear HK3
      refine wp_cond_true rfl ?_
      clear y0 y8 HK2
      refine wp_seq_k fun K4 hK4 => ?_
      have HK4 : Hid _ := hK4
      clear hK4
      have Gd := grown_drew w none
      have hd := h.keepN Gd
      have SS : BxS w.drew g7 48 #[.int .i64 V.id, .bool V.kn, .string V.nm, .int .i64 V.si, .bool V.en, .int .i64 V.la, .int .i64 V.su, .slice q V.G.length d, .slice a V.L.length c, .int .i64 V.st, .int .i64 V.ti, .int .i64 V.pa, .int .i64 V.tr, .int .i64 V.li] ∧ BxS w.drew g8 27 #[.int .i64 6, .int .i64 V.id, .string ⟨#[]⟩, .int .i64 0, .int .i64 0, .int .i64 0, .slice none 0 0, .slice none 0 0, .int .i64 3, .int .i64 0] := ⟨hd.b5, b8.keep Gd (by simp)⟩
      refine wp_regionL (fun wz => BxS wz g7 48 #[.int .i64 V.id, .bool V.kn, .string V.nm, .int .i64 V.si, .bool V.en, .int .i64 V.la, .int .i64 V.su, .slice q V.G.length d, .slice a V.L.length c, .int .i64 V.st, .int .i64 V.ti, .int .i64 V.pa, .int .i64 V.tr, .int .i64 V.li] ∧ BxS wz g8 27 #[.int .i64 6, .int .i64 V.id, .string ⟨#[]⟩, .int .i64 0, .int .i64 0, .int .i64 0, .slice none 0 0, .slice none 0 0, .int .i64 3, .int .i64 0]) [] #[false, false, false, false, false, false, false, false] rfl (by kernel_rfl) ?_
      generalize w.drew = w2 at *
      refine wpAnyZ_take [] 0 (.agg #[.int .i64 V.id, .bool V.kn, .string V.nm, .int .i64 V.si, .bool V.en, .int .i64 V.la, .int .i64 V.su, .slice q V.G.length d, .slice a V.L.length c, .int .i64 V.st, .int .i64 V.ti, .int .i64 V.pa, .int .i64 V.tr, .int .i64 V.li]) rfl (by kernel_rfl) (fun _ _ _ h => h) SS rfl (by rintro wz ⟨hz, hz8⟩; exact ld_execD rfl rfl hz Try.underlying48 i14) ?_
      try simp only [List.getElem_toArray, List.getElem_cons_succ, List.getElem_cons_zero, Act.put, List.setIfInBounds_toArray, List.set_cons_zero, List.set_cons_succ]
      refine wpAnyZ_take [] 1 (.agg #[.int .i64 6, .int .i64 V.id, .string ⟨#[]⟩, .int .i64 0, .int .i64 0, .int .i64 0, .slice none 0 0, .slice none 0 0, .int .i64 3, .int .i64 0]) rfl (by kernel_rfl) (fun _ _ _ h => h) SS rfl (by rintro wz ⟨hz, hz8⟩; exact ld_execD rfl rfl hz8 Try.underlying27 i10) ?_
      try simp only [List.getElem_toArray, List.getElem_cons_succ, List.getElem_cons_zero, Act.put, List.setIfInBounds_toArray, List.set_cons_zero, List.set_cons_succ]
      refine wpAnyZ_take [] 2 (.agg #[.int .i64 V.id, .bool V.kn, .string V.nm, .int .i64 V.si, .bool V.en, .int .i64 V.la, .int .i64 V.su, .slice q V.G.length d, .slice a V.L.length c, .int .i64 V.st, .int .i64 V.ti, .int .i64 V.pa, .int .i64 V.tr, .int .i64 V.li]) rfl (by kernel_rfl) (fun _ _ _ h => h) SS rfl (by rintro wz ⟨hz, hz8⟩; exact ld_execD rfl rfl hz Try.underlying48 i14) ?_
      try simp only [List.getElem_toArray, List.getElem_cons_succ, List.getElem_cons_zero, Act.put, List.setIfInBounds_toArray, List.set_cons_zero, List.set_cons_succ]
      refine wpAnyZ_oneB 3 rfl (by kernel_rfl) (fun KK hKK => ?_)
      go_simp
      go_at_call 72
      refine (rdone_any V.id V.kn V.nm V.si V.en V.la V.su q V.G.length d a V.L.length c V.st V.ti V.pa V.tr V.li 0 w2).mono ?_
      rintro e w3 ⟨rfl, y3⟩
      dsimp only
      have S3 : BxS w3 g7 48 #[.int .i64 V.id, .bool V.kn, .string V.nm, .int .i64 V.si, .bool V.en, .int .i64 V.la, .int .i64 V.su, .slice q V.G.length d, .slice a V.L.length c, .int .i64 V.st, .int .i64 V.ti, .int .i64 V.pa, .int .i64 V.tr, .int .i64 V.li] ∧ BxS w3 g8 27 #[.int .i64 6, .int .i64 V.id, .string ⟨#[]⟩, .int .i64 0, .int .i64 0, .int .i64 0, .slice none 0 0, .slice none 0 0, .int .i64 3, .int .i64 0] := ⟨SS.1.keep y3 (by simp), SS.2.keep y3 (by simp)⟩
      have h3 := hd.keepN y3
      refine hKK _ _ (fun _ => S3) ?_
      try simp only [List.getElem_toArray, List.getElem_cons_succ, List.getElem_cons_zero, Act.put, List.setIfInBounds_toArray, List.set_cons_zero, List.set_cons_succ]
      have hd1 : (xDone V.id 0).arr = #[.int .i64 5, .int .i64 V.id, .string ⟨#[]⟩, .int .i64 0, .int .i64 0, .int .i64 0, .slice none 0 0, .slice none 0 0, .int .i64 0, .int .i64 0] := rfl
      rw [hd1]
      clear hd1
      refine wpAnyZ_twoD 4 5 rfl rfl (by kernel_rfl) (fun KK hKK => ?_) (fun KK hKK => ?_)
      · have bA := BxS.new w3 27 #[.int .i64 6, .int .i64 V.id, .string ⟨#[]⟩, .int .i64 0, .int .i64 0, .int .i64 0, .slice none 0 0, .slice none 0 0, .int .i64 3, .int .i64 0, .int .i64 5, .int .i64 V.id, .string ⟨#[]⟩, .int .i64 0, .int .i64 0, .int .i64 0, .slice none 0 0, .slice none 0 0, .int .i64 0, .int .i64 0]
        have yA := World.grownBy_alloc w3 (.cells #[.int .i64 6, .int .i64 V.id, .string ⟨#[]⟩, .int .i64 0, .int .i64 0, .int .i64 0, .slice none 0 0, .slice none 0 0, .int .i64 3, .int .i64 0, .int .i64 5, .int .i64 V.id, .string ⟨#[]⟩, .int .i64 0, .int .i64 0, .int .i64 0, .slice none 0 0, .slice none 0 0, .int .i64 0, .int .i64 0] 27) none
        go_simp
        have S6 : BxS (w3.alloc (.cells #[.int .i64 6, .int .i64 V.id, .string ⟨#[]⟩, .int .i64 0, .int .i64 0, .int .i64 0, .slice none 0 0, .slice none 0 0, .int .i64 3, .int .i64 0, .int .i64 5, .int .i64 V.id, .string ⟨#[]⟩, .int .i64 0, .int .i64 0, .int .i64 0, .slice none 0 0, .slice none 0 0, .int .i64 0, .int .i64 0] 27)) g7 48 #[.int .i64 V.id, .bool V.kn, .string V.nm, .int .i64 V.si, .bool V.en, .int .i64 V.la, .int .i64 V.su, .slice q V.G.length d, .slice a V.L.length c, .int .i64 V.st, .int .i64 V.ti, .int .i64 V.pa, .int .i64 V.tr, .int .i64 V.li] ∧ BxS (w3.alloc (.cells #[.int .i64 6, .int .i64 V.id, .string ⟨#[]⟩, .int .i64 0, .int .i64 0, .int .i64 0, .slice none 0 0, .slice none 0 0, .int .i64 3, .int .i64 0, .int .i64 5, .int .i64 V.id, .string ⟨#[]⟩, .int .i64 0, .int .i64 0, .int .i64 0, .slice none 0 0, .slice none 0 0, .int .i64 0, .int .i64 0] 27)) g8 27 #[.int .i64 6, .int .i64 V.id, .string ⟨#[]⟩, .int .i64 0, .int .i64 0, .int .i64 0, .slice none 0 0, .slice none 0 0, .int .i64 3, .int .i64 0] := ⟨S3.1.keep yA (by simp), S3.2.keep yA (by simp)⟩
        have h6 := h3.keepN yA
        refine hKK _ _ (fun _ => S6) ?_
        try simp only [List.getElem_toArray, List.getElem_cons_succ, List.getElem_cons_zero, Act.put, List.setIfInBounds_toArray, List.set_cons_zero, List.set_cons_succ]
        have lA : wB.heap.size ≤ w3.heap.size := h3.g.size
        have hN : OwN (w3.alloc (.cells #[.int .i64 6, .int .i64 V.id, .string ⟨#[]⟩, .int .i64 0, .int .i64 0, .int .i64 0, .slice none 0 0, .slice none 0 0, .int .i64 3, .int .i64 0, .int .i64 5, .int .i64 V.id, .string ⟨#[]⟩, .int .i64 0, .int .i64 0, .int .i64 0, .slice none 0 0, .slice none 0 0, .int .i64 0, .int .i64 0] 27)) wB.heap.size (some ⟨w3.heap.size, 0, none⟩) 2 2 [xSeE V.id, xDone V.id 0] := OwN.twoN (x := xSeE V.id) (y := xDone V.id 0) bA lA (Ans.nil _ _) (OwGi.nil _ _) (Ans.nil _ _) (OwGi.nil _ _) rfl rfl
        generalize w3.alloc (.cells #[.int .i64 6, .int .i64 V.id, .string ⟨#[]⟩, .int .i64 0, .int .i64 0, .int .i64 0, .slice none 0 0, .slice none 0 0, .int .i64 3, .int .i64 0, .int .i64 5, .int .i64 V.id, .string ⟨#[]⟩, .int .i64 0, .int .i64 0, .int .i64 0, .slice none 0 0, .slice none 0 0, .int .i64 0, .int .i64 0] 27) = w6 at *
        refine wpAnyZ_oneB 5 rfl (by kernel_rfl) (fun KK hKK => ?_)
        refine step_stX _ rfl _ _ _ rfl g4 _ _ rfl rfl h6.b2 i14 rfl (by simp [Value.oneCell']) ?_
        intro w7 b7 u7
        have S7 : BxS w7 g7 48 #[.int .i64 V.id, .bool V.kn, .string V.nm, .int .i64 V.si, .bool V.en, .int .i64 V.la, .int .i64 V.su, .slice q V.G.length d, .slice a V.L.length c, .int .i64 V.st, .int .i64 V.ti, .int .i64 V.pa, .int .i64 V.tr, .int .i64 V.li] ∧ BxS w7 g8 27 #[.int .i64 6, .int .i64 V.id, .string ⟨#[]⟩, .int .i64 0, .int .i64 0, .int .i64 0, .slice none 0 0, .slice none 0 0, .int .i64 3, .int .i64 0] := ⟨S6.1.keep u7 (fun e => h6.ne (Option.some.inj e).symm), S6.2.keep u7 (fun e => BxS.apart S6.2 h6.b2 (by decide) (Option.some.inj e))⟩
        refine hKK _ _ (fun _ => S7) ?_
        try simp only [List.getElem_toArray, List.getElem_cons_succ, List.getElem_cons_zero, Act.put, List.setIfInBounds_toArray, List.set_cons_zero, List.set_cons_succ]
        refine wpAnyZ_take [] 6 (.slice (some ⟨w3.heap.size, 0, none⟩) 2 2) rfl (by kernel_rfl) (fun _ _ _ h => h) S7 rfl (by intro wz hz; go_simp) ?_
        try simp only [List.getElem_toArray, List.getElem_cons_succ, List.getElem_cons_zero, Act.put, List.setIfInBounds_toArray, List.set_cons_zero, List.set_cons_succ]
        refine wpAnyZ_take [] 7 (.int .i64 0) rfl (by kernel_rfl) (fun _ _ _ h => h) S7 rfl (by intro wz hz; go_simp) ?_
        try simp only [List.getElem_toArray, List.getElem_cons_succ, List.getElem_cons_zero, Act.put, List.setIfInBounds_toArray, List.set_cons_zero, List.set_cons_succ]
        refine wpAnyZ_doneB (by kernel_rfl) ?_ _
        refine HK4.out _ _ ?_
        clear HK4
        refine wp_ret ?_
        try simp only [Exit.then]
        refine bodyPost_ret (results_c1t2 rfl _ _ _ ⟨g4, 0, none⟩ _ _ _ rfl (BxS.load (t := 48) b7 Try.underlying48 Try.info_tk) rfl rfl) rfl ?_
        exact HP.out _ _ (h6.fin u7 (T := [ntSeen V.id, ntDone V.id 0]) rfl hN)
      · refine step_stX _ rfl _ _ _ rfl g4 _ _ rfl rfl h3.b2 i14 rfl (by simp [Value.oneCell']) ?_
        intro w7 b7 u7
        have S7 : BxS w7 g7 48 #[.int .i64 V.id, .bool V.kn, .string V.nm, .int .i64 V.si, .bool V.en, .int .i64 V.la, .int .i64 V.su, .slice q V.G.length d, .slice a V.L.length c, .int .i64 V.st, .int .i64 V.ti, .int .i64 V.pa, .int .i64 V.tr, .int .i64 V.li] ∧ BxS w7 g8 27 #[.int .i64 6, .int .i64 V.id, .string ⟨#[]⟩, .int .i64 0, .int .i64 0, .int .i64 0, .slice none 0 0, .slice none 0 0, .int .i64 3, .int .i64 0] := ⟨S3.1.keep u7 (fun e => h3.ne (Option.some.inj e).symm), S3.2.keep u7 (fun e => BxS.apart S3.2 h3.b2 (by decide) (Option.some.inj e))⟩
        refine hKK _ _ (fun _ => S7) ?_
        try simp only [List.getElem_toArray, List.getElem_cons_succ, List.getElem_cons_zero, Act.put, List.setIfInBounds_toArray, List.set_cons_zero, List.set_cons_succ]
        have bA := BxS.new w7 27 #[.int .i64 6, .int .i64 V.id, .string ⟨#[]⟩, .int .i64 0, .int .i64 0, .int .i64 0, .slice none 0 0, .slice none 0 0, .int .i64 3, .int .i64 0, .int .i64 5, .int .i64 V.id, .string ⟨#[]⟩, .int .i64 0, .int .i64 0, .int .i64 0, .slice none 0 0, .slice none 0 0, .int .i64 0, .int .i64 0]
        have yA := World.grownBy_alloc w7 (.cells #[.int .i64 6, .int .i64 V.id, .string ⟨#[]⟩, .int .i64 0, .int .i64 0, .int .i64 0, .slice none 0 0, .slice none 0 0, .int .i64 3, .int .i64 0, .int .i64 5, .int .i64 V.id, .string ⟨#[]⟩, .int .i64 0, .int .i64 0, .int .i64 0, .slice none 0 0, .slice none 0 0, .int .i64 0, .int .i64 0] 27) none
        refine wpAnyZ_oneB 4 rfl (by kernel_rfl) (fun KK hKK => ?_)
        go_simp
        have S8 : BxS (w7.alloc (.cells #[.int .i64 6, .int .i64 V.id, .string ⟨#[]⟩, .int .i64 0, .int .i64 0, .int .i64 0, .slice none 0 0, .slice none 0 0, .int .i64 3, .int .i64 0, .int .i64 5, .int .i64 V.id, .string ⟨#[]⟩, .int .i64 0, .int .i64 0, .int .i64 0, .slice none 0 0, .slice none 0 0, .int .i64 0, .int .i64 0] 27)) g7 48 #[.int .i64 V.id, .bool V.kn, .string V.nm, .int .i64 V.si, .bool V.en, .int .i64 V.la, .int .i64 V.su, .slice q V.G.length d, .slice a V.L.length c, .int .i64 V.st, .int .i64 V.ti, .int .i64 V.pa, .int .i64 V.tr, .int .i64 V.li] ∧ BxS (w7.alloc (.cells #[.int .i64 6, .int .i64 V.id, .string ⟨#[]⟩, .int .i64 0, .int .i64 0, .int .i64 0, .slice none 0 0, .slice none 0 0, .int .i64 3, .int .i64 0, .int .i64 5, .int .i64 V.id, .string ⟨#[]⟩, .int .i64 0, .int .i64 0, .int .i64 0, .slice none 0 0, .slice none 0 0, .int .i64 0, .int .i64 0] 27)) g8 27 #[.int .i64 6, .int .i64 V.id, .string ⟨#[]⟩, .int .i64 0, .int .i64 0, .int .i64 0, .slice none 0 0, .slice none 0 0, .int .i64 3, .int .i64 0] := ⟨S7.1.keep yA (by simp), S7.2.keep yA (by simp)⟩
        have b7 := b7.keep yA (by simp)
        refine hKK _ _ (fun _ => S8) ?_
        try simp only [List.getElem_toArray, List.getElem_cons_succ, List.getElem_cons_zero, Act.put, List.setIfInBounds_toArray, List.set_cons_zero, List.set_cons_succ]
        have lA : wB.heap.size ≤ w7.heap.size := Nat.le_trans h3.g.size u7.size
        have hN : OwN (w7.alloc (.cells #[.int .i64 6, .int .i64 V.id, .string ⟨#[]⟩, .int .i64 0, .int .i64 0, .int .i64 0, .slice none 0 0, .slice none 0 0, .int .i64 3, .int .i64 0, .int .i64 5, .int .i64 V.id, .string ⟨#[]⟩, .int .i64 0, .int .i64 0, .int .i64 0, .slice none 0 0, .slice none 0 0, .int .i64 0, .int .i64 0] 27)) wB.heap.size (some ⟨w7.heap.size, 0, none⟩) 2 2 [xSeE V.id, xDone V.id 0] := OwN.twoN (x := xSeE V.id) (y := xDone V.id 0) bA lA (Ans.nil _ _) (OwGi.nil _ _) (Ans.nil _ _) (OwGi.nil _ _) rfl rfl
        generalize w7.alloc (.cells #[.int .i64 6, .int .i64 V.id, .string ⟨#[]⟩, .int .i64 0, .int .i64 0, .int .i64 0, .slice none 0 0, .slice none 0 0, .int .i64 3, .int .i64 0, .int .i64 5, .int .i64 V.id, .string ⟨#[]⟩, .int .i64 0, .int .i64 0, .int .i64 0, .slice none 0 0, .slice none 0 0, .int .i64 0, .int .i64 0] 27) = w8 at *
        refine wpAnyZ_take [] 6 (.slice (some ⟨w7.heap.size, 0, none⟩) 2 2) rfl (by kernel_rfl) (fun _ _ _ h => h) S8 rfl (by intro wz hz; go_simp) ?_
        try simp only [List.getElem_toArray, List.getElem_cons_succ, List.getElem_cons_zero, Act.put, List.setIfInBounds_toArray, List.set_cons_zero, List.set_cons_succ]
        refine wpAnyZ_take [] 7 (.int .i64 0) rfl (by kernel_rfl) (fun _ _ _ h => h) S8 rfl (by intro wz hz; go_simp) ?_
        try simp only [List.getElem_toArray, List.getElem_cons_succ, List.getElem_cons_zero, Act.put, List.setIfInBounds_toArray, List.set_cons_zero, List.set_cons_succ]
        refine wpAnyZ_doneB (by kernel_rfl) ?_ _
        refine HK4.out _ _ ?_
        clear HK4
        refine wp_ret ?_
        try simp only [Exit.then]
        refine bodyPost_ret (results_c1t2 rfl _ _ _ ⟨g4, 0, none⟩ _ _ _ rfl (BxS.load (t := 48) b7 Try.underlying48 Try.info_tk) rfl rfl) rfl ?_
        exact HP.out _ _ (h3.fin2 u7 yA (T := [ntSeen V.id, ntDone V.id 0]) rfl hN)
    · have hk2 : (kd == 3) = false := beq_eq_false_iff_ne.2 hk
      rw [if_neg hk] at HP
      have HK3 : Hid _ := hk
      clear hk
      refine wp_seq_k fun K2 hK2 => ?_
      have HK2 : Hid _ := hK2
      clear hK2
      go_wp2
      try simp only [Exit.then]
      refine HK2.out _ _ ?_
      clear HK2
      by_cases h5 : o = 5
      · have hk6 : kd = 6 := by
          by_cases e : kd = 6
          · exact e
          · have := HN.out.no e; omega
        rw [if_pos h5] at HP
        rw [hk6] at y0
        rw [h5] at y8
        have y13 : w.cell? ⟨g7, 13, none⟩ = some (.int .i64 V.li) := h.b5.cell 13 (by show 13 < 14; decide)
        clear h5 hk6 hk2
        refine wp_seq_k fun K2 hK2 => ?_
        have HK2 : Hid _ := hK2
        clear hK2
        refine wp_seq_k fun K3 hK3 => ?_
        have HK3 : Hid _ := hK3
        clear hK3
        go_wp2
        refine HK3.out _ _ ?_
        clear HK3
        refine wp_cond_true rfl ?_
        clear y0 y8
        refine wp_seq_k fun K3 hK3 => ?_
        have HK3 : Hid _ := hK3
        clear hK3
        have s0 : True := trivial
        go_wp2_with (have _t := s0; clear s0; refine wpList_stC _ rfl _ _ _ rfl g7 10 48 _ #[.int .i64 V.id, .bool V.kn, .string V.nm, .int .i64 V.si, .bool V.en, .int .i64 V.la, .int .i64 V.su, .slice q V.G.length d, .slice a V.L.length c, .int .i64 V.st, .int .i64 0, .int .i64 V.pa, .int .i64 V.tr, .int .i64 V.li] (.int .i64 0) rfl rfl h.b5 (stc_int _ _ _) (by show 10 < 14; decide) rfl ?_; intro w1 bw1 uw1)
        refine HK3.out _ _ ?_
        clear HK3
        have h1 := h.set uw1 bw1
        have y13 : w1.cell? ⟨g7, 13, none⟩ = some (.int .i64 V.li) := h1.b5.cell 13 (by show 13 < 14; decide)
        have s0 : True := trivial
        go_wp2_with (have _t := s0; clear s0; refine wpList_stC _ rfl _ _ _ rfl g7 12 48 _ #[.int .i64 V.id, .bool V.kn, .string V.nm, .int .i64 V.si, .bool V.en, .int .i64 V.la, .int .i64 V.su, .slice q V.G.length d, .slice a V.L.length c, .int .i64 V.st, .int .i64 0, .int .i64 V.pa, .int .i64 V.li, .int .i64 V.li] (.int .i64 V.li) rfl rfl h1.b5 (stc_int _ _ _) (by show 12 < 14; decide) rfl ?_; intro w2 bw2 uw2)
        have h2 : DTk wB w2 g4 g7 { V with ti := 0, tr := V.li } a c q d := h1.set uw2 bw2
        try simp only [Exit.then]
        refine HK2.out _ _ ?_
        clear HK2
        have b5 := h2.b5
        have s0 : True := trivial
        go_wp2_with (first
          | (have _t := s0; clear s0; refine wpList_ldX _ rfl _ (.tmp 7) rfl g7 _ rfl b5 Try.underlying48 i14 ?_; have s1 : True := trivial)
          | (have _t := s1; clear s1; refine wpList_stX _ rfl _ (.tmp 4) (.tmp 73) rfl g4 _ _ rfl rfl h2.b2 i14 rfl (by simp [Value.oneCell']) ?_; intro w3 b3' u3))
        try simp only [Exit.then]
        refine bodyPost_ret (results_c1t2 rfl _ _ _ ⟨g4, 0, none⟩ _ _ _ rfl (BxS.load (t := 48) b3' Try.underlying48 Try.info_tk) rfl rfl) rfl ?_
        exact HP.out _ _ (h2.fin u3 rfl (OwN.nil _ _))
      · have h52 : (o == 5) = false := beq_eq_false_iff_ne.2 h5
        rw [if_neg h5] at HP
        clear h5
        refine wp_seq_k fun K2 hK2 => ?_
        have HK2 : Hid _ := hK2
        clear hK2
        by_cases h6 : kd = 6
        · rw [h6] at y0
          clear h6 hk2
          go_wp2
          try simp only [Exit.then]
          refine HK2.out _ _ ?_
          clear HK2
          have b5 := h.b5
          have s0 : True := trivial
          go_wp2_with (first
            | (have _t := s0; clear s0; refine wpList_ldX _ rfl _ (.tmp 7) rfl g7 _ rfl b5 Try.underlying48 i14 ?_; have s1 : True := trivial)
            | (have _t := s1; clear s1; refine wpList_stX _ rfl _ (.tmp 4) (.tmp 73) rfl g4 _ _ rfl rfl h.b2 i14 rfl (by simp [Value.oneCell']) ?_; intro w3 b3' u3))
          try simp only [Exit.then]
          refine bodyPost_ret (results_c1t2 rfl _ _ _ ⟨g4, 0, none⟩ _ _ _ rfl (BxS.load (t := 48) b3' Try.underlying48 Try.info_tk) rfl rfl) rfl ?_
          exact HP.out _ _ (h.fin u3 rfl (OwN.nil _ _))
        · have h62 : (kd == 6) = false := beq_eq_false_iff_ne.2 h6
          clear h6
          go_wp2
          try simp only [Exit.then]
          refine HK2.out _ _ ?_
          clear HK2
          have b5 := h.b5
          have s0 : True := trivial
          go_wp2_with (first
            | (have _t := s0; clear s0; refine wpList_ldX _ rfl _ (.tmp 7) rfl g7 _ rfl b5 Try.underlying48 i14 ?_; have s1 : True := trivial)
            | (have _t := s1; clear s1; refine wpList_stX _ rfl _ (.tmp 4) (.tmp 73) rfl g4 _ _ rfl rfl h.b2 i14 rfl (by simp [Value.oneCell']) ?_; intro w3 b3' u3))
          try simp only [Exit.then]
          refine bodyPost_ret (results_c1t2 rfl _ _ _ ⟨g4, 0, none⟩ _ _ _ rfl (BxS.load (t := 48) b3' Try.underlying48 Try.info_tk) rfl rfl) rfl ?_
          exact HP.out _ _ (h.fin u3 rfl (OwN.nil _ _))
  · have HX : (heV V kd o nm2 si2 su2 x D) = (V, if kd = 3 then [ntSeen V.id, ntDone V.id 9] else []) := by unfold heV; rw [if_pos hs]
    rw [HX] at HP
    rw [hs] at y9
    clear hs HX
    refine wp_seq_k fun K2 hK2 => ?_
    have HK2 : Hid _ := hK2
    clear hK2
    go_wp2
    refine HK2.out _ _ ?_
    clear HK2
    refine wp_cond_true rfl ?_
    clear HK1 y9
    by_cases hk : kd = 3
    · rw [if_pos hk] at HP
      rw [hk] at y0
      clear hk
      refine wp_seq_k fun K2 hK2 => ?_
      have HK2 : Hid _ := hK2
      clear hK2
      refine wp_seq_k fun K3 hK3 => ?_
      have HK3 : Hid _ := hK3
      clear hK3
      go_wp2
      refine HK3.out _ _ ?_
      clear HK3
      refine wp_cond_true rfl ?_
      clear y0 y8 HK2
      refine wp_seq_k fun K4 hK4 => ?_
      have HK4 : Hid _ := hK4
      clear hK4
      have Gd := grown_drew w none
      have hd := h.keepN Gd
      have SS : BxS w.drew g7 48 #[.int .i64 V.id, .bool V.kn, .string V.nm, .int .i64 V.si, .bool V.en, .int .i64 V.la, .int .i64 V.su, .slice q V.G.length d, .slice a V.L.length c, .int .i64 V.st, .int .i64 V.ti, .int .i64 V.pa, .int .i64 V.tr, .int .i64 V.li] ∧ BxS w.drew g8 27 #[.int .i64 6, .int .i64 V.id, .string ⟨#[]⟩, .int .i64 0, .int .i64 0, .int .i64 0, .slice none 0 0, .slice none 0 0, .int .i64 3, .int .i64 0] := ⟨hd.b5, b8.keep Gd (by simp)⟩
      refine wp_regionL (fun wz => BxS wz g7 48 #[.int .i64 V.id, .bool V.kn, .string V.nm, .int .i64 V.si, .bool V.en, .int .i64 V.la, .int .i64 V.su, .slice q V.G.length d, .slice a V.L.length c, .int .i64 V.st, .int .i64 V.ti, .int .i64 V.pa, .int .i64 V.tr, .int .i64 V.li] ∧ BxS wz g8 27 #[.int .i64 6, .int .i64 V.id, .string ⟨#[]⟩, .int .i64 0, .int .i64 0, .int .i64 0, .slice none 0 0, .slice none 0 0, .int .i64 3, .int .i64 0]) [] #[false, false, false, false, false, false, false, false] rfl (by kernel_rfl) ?_
      generalize w.drew = w2 at *
      refine wpAnyZ_take [] 0 (.agg #[.int .i64 V.id, .bool V.kn, .string V.nm, .int .i64 V.si, .bool V.en, .int .i64 V.la, .int .i64 V.su, .slice q V.G.length d, .slice a V.L.length c, .int .i64 V.st, .int .i64 V.ti, .int .i64 V.pa, .int .i64 V.tr, .int .i64 V.li]) rfl (by kernel_rfl) (fun _ _ _ h => h) SS rfl (by rintro wz ⟨hz, hz8⟩; exact ld_execD rfl rfl hz Try.underlying48 i14) ?_
      try simp only [List.getElem_toArray, List.getElem_cons_succ, List.getElem_cons_zero, Act.put, List.setIfInBounds_toArray, List.set_cons_zero, List.set_cons_succ]
      refine wpAnyZ_take [] 1 (.agg #[.int .i64 6, .int .i64 V.id, .string ⟨#[]⟩, .int .i64 0, .int .i64 0, .int .i64 0, .slice none 0 0, .slice none 0 0, .int .i64 3, .int .i64 0]) rfl (by kernel_rfl) (fun _ _ _ h => h) SS rfl (by rintro wz ⟨hz, hz8⟩; exact ld_execD rfl rfl hz8 Try.underlying27 i10) ?_
      try simp only [List.getElem_toArray, List.getElem_cons_succ, List.getElem_cons_zero, Act.put, List.setIfInBounds_toArray, List.set_cons_zero, List.set_cons_succ]
      refine wpAnyZ_take [] 2 (.agg #[.int .i64 V.id, .bool V.kn, .string V.nm, .int .i64 V.si, .bool V.en, .int .i64 V.la, .int .i64 V.su, .slice q V.G.length d, .slice a V.L.length c, .int .i64 V.st, .int .i64 V.ti, .int .i64 V.pa, .int .i64 V.tr, .int .i64 V.li]) rfl (by kernel_rfl) (fun _ _ _ h => h) SS rfl (by rintro wz ⟨hz, hz8⟩; exact ld_execD rfl rfl hz Try.underlying48 i14) ?_
      try simp only [List.getElem_toArray, List.getElem_cons_succ, List.getElem_cons_zero, Act.put, List.setIfInBounds_toArray, List.set_cons_zero, List.set_cons_succ]
      refine wpAnyZ_oneB 3 rfl (by kernel_rfl) (fun KK hKK => ?_)
      go_simp
      go_at_call 72
      refine (rdone_any V.id V.kn V.nm V.si V.en V.la V.su q V.G.length d a V.L.length c V.st V.ti V.pa V.tr V.li 9 w2).mono ?_
      rintro e w3 ⟨rfl, y3⟩
      dsimp only
      have S3 : BxS w3 g7 48 #[.int .i64 V.id, .bool V.kn, .string V.nm, .int .i64 V.si, .bool V.en, .int .i64 V.la, .int .i64 V.su, .slice q V.G.length d, .slice a V.L.length c, .int .i64 V.st, .int .i64 V.ti, .int .i64 V.pa, .int .i64 V.tr, .int .i64 V.li] ∧ BxS w3 g8 27 #[.int .i64 6, .int .i64 V.id, .string ⟨#[]⟩, .int .i64 0, .int .i64 0, .int .i64 0, .slice none 0 0, .slice none 0 0, .int .i64 3, .int .i64 0] := ⟨SS.1.keep y3 (by simp), SS.2.keep y3 (by simp)⟩
      have h3 := hd.keepN y3
      refine hKK _ _ (fun _ => S3) ?_
      try simp only [List.getElem_toArray, List.getElem_cons_succ, List.getElem_cons_zero, Act.put, List.setIfInBounds_toArray, List.set_cons_zero, List.set_cons_succ]
      have hd1 : (xDone V.id 9).arr = #[.int .i64 5, .int .i64 V.id, .string ⟨#[]⟩, .int .i64 0, .int .i64 0, .int .i64 0, .slice none 0 0, .slice none 0 0, .int .i64 0, .int .i64 9] := rfl
      rw [hd1]
      clear hd1
      refine wpAnyZ_twoD 4 5 rfl rfl (by kernel_rfl) (fun KK hKK => ?_) (fun KK hKK => ?_)
      · have bA := BxS.new w3 27 #[.int .i64 6, .int .i64 V.id, .string ⟨#[]⟩, .int .i64 0, .int .i64 0, .int .i64 0, .slice none 0 0, .slice none 0 0, .int .i64 3, .int .i64 0, .int .i64 5, .int .i64 V.id, .string ⟨#[]⟩, .int .i64 0, .int .i64 0, .int .i64 0, .slice none 0 0, .slice none 0 0, .int .i64 0, .int .i64 9]
        have yA := World.grownBy_alloc w3 (.cells #[.int .i64 6, .int .i64 V.id, .string ⟨#[]⟩, .int .i64 0, .int .i64 0, .int .i64 0, .slice none 0 0, .slice none 0 0, .int .i64 3, .int .i64 0, .int .i64 5, .int .i64 V.id, .string ⟨#[]⟩, .int .i64 0, .int .i64 0, .int .i64 0, .slice none 0 0, .slice none 0 0, .int .i64 0, .int .i64 9] 27) none
        go_simp
        have S6 : BxS (w3.alloc (.cells #[.int .i64 6, .int .i64 V.id, .string ⟨#[]⟩, .int .i64 0, .int .i64 0, .int .i64 0, .slice none 0 0, .slice none 0 0, .int .i64 3, .int .i64 0, .int .i64 5, .int .i64 V.id, .string ⟨#[]⟩, .int .i64 0, .int .i64 0, .int .i64 0, .slice none 0 0, .slice none 0 0, .int .i64 0, .int .i64 9] 27)) g7 48 #[.int .i64 V.id, .bool V.kn, .string V.nm, .int .i64 V.si, .bool V.en, .int .i64 V.la, .int .i64 V.su, .slice q V.G.length d, .slice a V.L.length c, .int .i64 V.st, .int .i64 V.ti, .int .i64 V.pa, .int .i64 V.tr, .int .i64 V.li] ∧ BxS (w3.alloc (.cells #[.int .i64 6, .int .i64 V.id, .string ⟨#[]⟩, .int .i64 0, .int .i64 0, .int .i64 0, .slice none 0 0, .slice none 0 0, .int .i64 3, .int .i64 0, .int .i64 5, .int .i64 V.id, .string ⟨#[]⟩, .int .i64 0, .int .i64 0, .int .i64 0, .slice none 0 0, .slice none 0 0, .int .i64 0, .int .i64 9] 27)) g8 27 #[.int .i64 6, .int .i64 V.id, .string ⟨#[]⟩, .int .i64 0, .int .i64 0, .int .i64 0, .slice none 0 0, .slice none 0 0, .int .i64 3, .int .i64 0] := ⟨S3.1.keep yA (by simp), S3.2.keep yA (by simp)⟩
        have h6 := h3.keepN yA
        refine hKK _ _ (fun _ => S6) ?_
        try simp only [List.getElem_toArray, List.getElem_cons_succ, List.getElem_cons_zero, Act.put, List.setIfInBounds_toArray, List.set_cons_zero, List.set_cons_succ]
        have lA : wB.heap.size ≤ w3.heap.size := h3.g.size
        have hN : OwN (w3.alloc (.cells #[.int .i64 6, .int .i64 V.id, .string ⟨#[]⟩, .int .i64 0, .int .i64 0, .int .i64 0, .slice none 0 0, .slice none 0 0, .int .i64 3, .int .i64 0, .int .i64 5, .int .i64 V.id, .string ⟨#[]⟩, .int .i64 0, .int .i64 0, .int .i64 0, .slice none 0 0, .slice none 0 0, .int .i64 0, .int .i64 9] 27)) wB.heap.size (some ⟨w3.heap.size, 0, none⟩) 2 2 [xSeE V.id, xDone V.id 9] := OwN.twoN (x := xSeE V.id) (y := xDone V.id 9) bA lA (Ans.nil _ _) (OwGi.nil _ _) (Ans.nil _ _) (OwGi.nil _ _) rfl rfl
        generalize w3.alloc (.cells #[.int .i64 6, .int .i64 V.id, .string ⟨#[]⟩, .int .i64 0, .int .i64 0, .int .i64 0, .slice none 0 0, .slice none 0 0, .int .i64 3, .int .i64 0, .int .i64 5, .int .i64 V.id, .string ⟨#[]⟩, .int .i64 0, .int .i64 0, .int .i64 0, .slice none 0 0, .slice none 0 0, .int .i64 0, .int .i64 9] 27) = w6 at *
        refine wpAnyZ_oneB 5 rfl (by kernel_rfl) (fun KK hKK => ?_)
        refine step_stX _ rfl _ _ _ rfl g4 _ _ rfl rfl h6.b2 i14 rfl (by simp [Value.oneCell']) ?_
        intro w7 b7 u7
        have S7 : BxS w7 g7 48 #[.int .i64 V.id, .bool V.kn, .string V.nm, .int .i64 V.si, .bool V.en, .int .i64 V.la, .int .i64 V.su, .slice q V.G.length d, .slice a V.L.length c, .int .i64 V.st, .int .i64 V.ti, .int .i64 V.pa, .int .i64 V.tr, .int .i64 V.li] ∧ BxS w7 g8 27 #[.int .i64 6, .int .i64 V.id, .string ⟨#[]⟩, .int .i64 0, .int .i64 0, .int .i64 0, .slice none 0 0, .slice none 0 0, .int .i64 3, .int .i64 0] := ⟨S6.1.keep u7 (fun e => h6.ne (Option.some.inj e).symm), S6.2.keep u7 (fun e => BxS.apart S6.2 h6.b2 (by decide) (Option.some.inj e))⟩
        refine hKK _ _ (fun _ => S7) ?_
        try simp only [List.getElem_toArray, List.getElem_cons_succ, List.getElem_cons_zero, Act.put, List.setIfInBounds_toArray, List.set_cons_zero, List.set_cons_succ]
        refine wpAnyZ_take [] 6 (.slice (some ⟨w3.heap.size, 0, none⟩) 2 2) rfl (by kernel_rfl) (fun _ _ _ h => h) S7 rfl (by intro wz hz; go_simp) ?_
        try simp only [List.getElem_toArray, List.getElem_cons_succ, List.getElem_cons_zero, Act.put, List.setIfInBounds_toArray, List.set_cons_zero, List.set_cons_succ]
        refine wpAnyZ_take [] 7 (.int .i64 0) rfl (by kernel_rfl) (fun _ _ _ h => h) S7 rfl (by intro wz hz; go_simp) ?_
        try simp only [List.getElem_toArray, List.getElem_cons_succ, List.getElem_cons_zero, Act.put, List.setIfInBounds_toArray, List.set_cons_zero, List.set_cons_succ]
        refine wpAnyZ_doneB (by kernel_rfl) ?_ _
        refine HK4.out _ _ ?_
        clear HK4
        refine wp_ret ?_
        try simp only [Exit.then]
        refine bodyPost_ret (results_c1t2 rfl _ _ _ ⟨g4, 0, none⟩ _ _ _ rfl (BxS.load (t := 48) b7 Try.underlying48 Try.info_tk) rfl rfl) rfl ?_
        exact HP.out _ _ (h6.fin u7 (T := [ntSeen V.id, ntDone V.id 9]) rfl hN)
      · refine step_stX _ rfl _ _ _ rfl g4 _ _ rfl rfl h3.b2 i14 rfl (by simp [Value.oneCell']) ?_
        intro w7 b7 u7
        have S7 : BxS w7 g7 48 #[.int .i64 V.id, .bool V.kn, .string V.nm, .int .i64 V.si, .bool V.en, .int .i64 V.la, .int .i64 V.su, .slice q V.G.length d, .slice a V.L.length c, .int .i64 V.st, .int .i64 V.ti, .int .i64 V.pa, .int .i64 V.tr, .int .i64 V.li] ∧ BxS w7 g8 27 #[.int .i64 6, .int .i64 V.id, .string ⟨#[]⟩, .int .i64 0, .int .i64 0, .int .i64 0, .slice none 0 0, .slice none 0 0, .int .i64 3, .int .i64 0] := ⟨S3.1.keep u7 (fun e => h3.ne (Option.some.inj e).symm), S3.2.keep u7 (fun e => BxS.apart S3.2 h3.b2 (by decide) (Option.some.inj e))⟩
        refine hKK _ _ (fun _ => S7) ?_
        try simp only [List.getElem_toArray, List.getElem_cons_succ, List.getElem_cons_zero, Act.put, List.setIfInBounds_toArray, List.set_cons_zero, List.set_cons_succ]
        have bA := BxS.new w7 27 #[.int .i64 6, .int .i64 V.id, .string ⟨#[]⟩, .int .i64 0, .int .i64 0, .int .i64 0, .slice none 0 0, .slice none 0 0, .int .i64 3, .int .i64 0, .int .i64 5, .int .i64 V.id, .string ⟨#[]⟩, .int .i64 0, .int .i64 0, .int .i64 0, .slice none 0 0, .slice none 0 0, .int .i64 0, .int .i64 9]
        have yA := World.grownBy_alloc w7 (.cells #[.int .i64 6, .int .i64 V.id, .string ⟨#[]⟩, .int .i64 0, .int .i64 0, .int .i64 0, .slice none 0 0, .slice none 0 0, .int .i64 3, .int .i64 0, .int .i64 5, .int .i64 V.id, .string ⟨#[]⟩, .int .i64 0, .int .i64 0, .int .i64 0, .slice none 0 0, .slice none 0 0, .int .i64 0, .int .i64 9] 27) none
        refine wpAnyZ_oneB 4 rfl (by kernel_rfl) (fun KK hKK => ?_)
        go_simp
        have S8 : BxS (w7.alloc (.cells #[.int .i64 6, .int .i64 V.id, .string ⟨#[]⟩, .int .i64 0, .int .i64 0, .int .i64 0, .slice none 0 0, .slice none 0 0, .int .i64 3, .int .i64 0, .int .i64 5, .int .i64 V.id, .string ⟨#[]⟩, .int .i64 0, .int .i64 0, .int .i64 0, .slice none 0 0, .slice none 0 0, .int .i64 0, .int .i64 9] 27)) g7 48 #[.int .i64 V.id, .bool V.kn, .string V.nm, .int .i64 V.si, .bool V.en, .int .i64 V.la, .int .i64 V.su, .slice q V.G.length d, .slice a V.L.length c, .int .i64 V.st, .int .i64 V.ti, .int .i64 V.pa, .int .i64 V.tr, .int .i64 V.li] ∧ BxS (w7.alloc (.cells #[.int .i64 6, .int .i64 V.id, .string ⟨#[]⟩, .int .i64 0, .int .i64 0, .int .i64 0, .slice none 0 0, .slice none 0 0, .int .i64 3, .int .i64 0, .int .i64 5, .int .i64 V.id, .string ⟨#[]⟩, .int .i64 0, .int .i64 0, .int .i64 0, .slice none 0 0, .slice none 0 0, .int .i64 0, .int .i64 9] 27)) g8 27 #[.int .i64 6, .int .i64 V.id, .string ⟨#[]⟩, .int .i64 0, .int .i64 0, .int .i64 0, .slice none 0 0, .slice none 0 0, .int .i64 3, .int .i64 0] := ⟨S7.1.keep yA (by simp), S7.2.keep yA (by simp)⟩
        have b7 := b7.keep yA (by simp)
        refine hKK _ _ (fun _ => S8) ?_
        try simp only [List.getElem_toArray, List.getElem_cons_succ, List.getElem_cons_zero, Act.put, List.setIfInBounds_toArray, List.set_cons_zero, List.set_cons_succ]
        have lA : wB.heap.size ≤ w7.heap.size := Nat.le_trans h3.g.size u7.size
        have hN : OwN (w7.alloc (.cells #[.int .i64 6, .int .i64 V.id, .string ⟨#[]⟩, .int .i64 0, .int .i64 0, .int .i64 0, .slice none 0 0, .slice none 0 0, .int .i64 3, .int .i64 0, .int .i64 5, .int .i64 V.id, .string ⟨#[]⟩, .int .i64 0, .int .i64 0, .int .i64 0, .slice none 0 0, .slice none 0 0, .int .i64 0, .int .i64 9] 27)) wB.heap.size (some ⟨w7.heap.size, 0, none⟩) 2 2 [xSeE V.id, xDone V.id 9] := OwN.twoN (x := xSeE V.id) (y := xDone V.id 9) bA lA (Ans.nil _ _) (OwGi.nil _ _) (Ans.nil _ _) (OwGi.nil _ _) rfl rfl
        generalize w7.alloc (.cells #[.int .i64 6, .int .i64 V.id, .string ⟨#[]⟩, .int .i64 0, .int .i64 0, .int .i64 0, .slice none 0 0, .slice none 0 0, .int .i64 3, .int .i64 0, .int .i64 5, .int .i64 V.id, .string ⟨#[]⟩, .int .i64 0, .int .i64 0, .int .i64 0, .slice none 0 0, .slice none 0 0, .int .i64 0, .int .i64 9] 27) = w8 at *
        refine wpAnyZ_take [] 6 (.slice (some ⟨w7.heap.size, 0, none⟩) 2 2) rfl (by kernel_rfl) (fun _ _ _ h => h) S8 rfl (by intro wz hz; go_simp) ?_
        try simp only [List.getElem_toArray, List.getElem_cons_succ, List.getElem_cons_zero, Act.put, List.setIfInBounds_toArray, List.set_cons_zero, List.set_cons_succ]
        refine wpAnyZ_take [] 7 (.int .i64 0) rfl (by kernel_rfl) (fun _ _ _ h => h) S8 rfl (by intro wz hz; go_simp) ?_
        try simp only [List.getElem_toArray, List.getElem_cons_succ, List.getElem_cons_zero, Act.put, List.setIfInBounds_toArray, List.set_cons_zero, List.set_cons_succ]
        refine wpAnyZ_doneB (by kernel_rfl) ?_ _
        refine HK4.out _ _ ?_
        clear HK4
        refine wp_ret ?_
        try simp only [Exit.then]
        refine bodyPost_ret (results_c1t2 rfl _ _ _ ⟨g4, 0, none⟩ _ _ _ rfl (BxS.load (t := 48) b7 Try.underlying48 Try.info_tk) rfl rfl) rfl ?_
        exact HP.out _ _ (h3.fin2 u7 yA (T := [ntSeen V.id, ntDone V.id 9]) rfl hN)
    · have hk2 : (kd == 3) = false := beq_eq_false_iff_ne.2 hk
      rw [if_neg hk] at HP
      clear hk
      refine wp_seq_k fun K2 hK2 => ?_
      have HK2 : Hid _ := hK2
      clear hK2
      go_wp2
      try simp only [Exit.then]
      refine HK2.out _ _ ?_
      clear HK2
      have b5 := h.b5
      have s0 : True := trivial
      go_wp2_with (first
        | (have _t := s0; clear s0; refine wpList_ldX _ rfl _ (.tmp 7) rfl g7 _ rfl b5 Try.underlying48 i14 ?_; have s1 : True := trivial)
        | (have _t := s1; clear s1; refine wpList_stX _ rfl _ (.tmp 4) (.tmp 49) rfl g4 _ _ rfl rfl h.b2 i14 rfl (by simp [Value.oneCell']) ?_; intro w3 b3' u3))
      try simp only [Exit.then]
      refine bodyPost_ret (results_c1t2 rfl _ _ _ ⟨g4, 0, none⟩ _ _ _ rfl (BxS.load (t := 48) b3' Try.underlying48 Try.info_tk) rfl rfl) rfl ?_
      exact HP.out _ _ (h.fin u3 rfl (OwN.nil _ _))
end
end Go.Proofs.Ytnimehkfnpepfaa
