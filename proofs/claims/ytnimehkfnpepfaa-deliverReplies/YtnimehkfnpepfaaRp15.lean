import Derived.Test.YtnimehkfnpepfaaRp14
import Derived.Test.YtnimehkfnpepfaaRp8
import Derived.Test.YtnimehkfnpepfaaRp13
namespace Go.Proofs.Ytnimehkfnpepfaa
open Go.RowKit
set_option maxRecDepth 100000
set_option linter.unusedVariables false
set_option linter.unusedSimpArgs false

section
theorem OwN.oneN {w : World} {lo g : Nat} {x : Nx} (hb : BxS w g 27 x.arr) (hl : lo ≤ g) (hA : Ans w lo x.a x.da.length x.c x.da) (hO : OwGi w lo x.q x.ga.length x.d x.ga) : OwN w lo (some ⟨g, 0, none⟩) 1 1 [x] :=
  ⟨⟨rfl, .inr ⟨g, 1, x.arr, rfl, Nat.zero_le _, hb, Nat.le_refl _, by unfold maxLen; decide, rfl, by show x.arr.toList.take 10 = x.cells ++ []; rw [List.append_nil]; rfl⟩⟩, rfl, (fun z e => by have e : g = z := Option.some.inj e; omega), (fun y hy => by rw [List.mem_singleton.1 hy]; exact hA), (fun y hy => by rw [List.mem_singleton.1 hy]; exact hO), List.pairwise_singleton _ _, List.pairwise_singleton _ _⟩
theorem stc_stg (g i : Nat) (n : Int) (w : World) (hc : ∃ u, w.cell? ⟨g, i, none⟩ = some u) (hf : w.frozen? ⟨g, i, none⟩ = false) : (Instr.storeAt 42 (.pointer (some ⟨g, i, none⟩)) (.int .i64 n)).run Try.prog w = .ok () (w.setCell ⟨g, i, none⟩ (.int .i64 n)) := by
  obtain ⟨u, hc⟩ := hc
  simp [go_sem, hc, hf]
theorem wpAnyZ_twoD {P : Program} {ops : Array Oper} {Q : Exit → Act → World → Prop} {md : Region.Mode} {S : World → Prop} {Z : List Nat} (i j : Nat) {o o' : Oper} {fuel : Nat} {listed : Array Bool} {a : Act} {w : World} (ho : ops[i]? = some o) (ho' : ops[j]? = some o') (hr : (Region.ready md ops listed == [i, j]) = true)
    (h : ∀ K' : Act → World → Prop, (∀ a w, (i ∉ Z → S w) → wpAnyZ P md ops Q S Z fuel (listed.setIfInBounds i true) a w → K' a w) → if Region.wanted o (yielded ops a.tmps) = true then Oper.wp P o a w K' Q else K' (a.put o.dst undef) w)
    (h' : ∀ K' : Act → World → Prop, (∀ a w, (j ∉ Z → S w) → wpAnyZ P md ops Q S Z fuel (listed.setIfInBounds j true) a w → K' a w) → if Region.wanted o' (yielded ops a.tmps) = true then Oper.wp P o' a w K' Q else K' (a.put o'.dst undef) w) :
    wpAnyZ P md ops Q S Z (fuel + 1) listed a w := by
  have hr := eq_of_beq hr
  refine ⟨fun h0 => (by rw [hr] at h0; cases h0), fun k hk => ?_⟩
  rw [hr] at hk
  rcases List.mem_cons.1 hk with e | hk
  · subst e
    exact wpOp_step ho (fun K' hK => h K' (fun a w hS hW => hK a w ⟨hS, hW⟩))
  · have e := List.mem_singleton.1 hk
    subst e
    exact wpOp_step ho' (fun K' hK => h' K' (fun a w hS hW => hK a w ⟨hS, hW⟩))

section
variable {wB w w' : World} {g3 g4 g7 : Nat} {NN : Array Value} {id : Int} {nm : ByteArray} {mo bu st : Int} {fi : Bool} {at' ti pa tr li : Int} {a : Option Addr} {n c : Nat} {L : List Nat} {q : Option Addr} {m d : Nat} {G : List (Int × Int)}
theorem nbl_one {g : Nat} {z : Nat} (hz : Nbl (some ⟨g, 0, none⟩) 1 1 [xSeen id] z) : z = g := by
  rcases hz with hz | ⟨x, hx, hz | hz⟩
  · exact (Option.some.inj hz).symm
  · rw [List.mem_singleton.1 hx] at hz; cases hz
  · rw [List.mem_singleton.1 hx] at hz; cases hz
theorem DG.fin1 (h : DG wB w g3 g4 g7 NN id nm mo bu st fi at' ti pa tr li a n c L q m d G) {gn : Nat} (bA : BxS w gn 27 #[.int .i64 6, .int .i64 id, .string ⟨#[]⟩, .int .i64 0, .int .i64 0, .int .i64 0, .slice none 0 0, .slice none 0 0, .int .i64 5, .int .i64 0]) {cs4 : Array Value} (b4 : BxS w g4 44 cs4) (hs4 : cs4.size = 13) (hl : wB.heap.size ≤ gn) (u : w.grownBy w' (some g4)) : RpA wB id nm mo bu st fi at' ti pa tr li L G [xSeen id] 0 (.returned (.tuple #[.agg #[.int .i64 id, .string nm, .slice a n c, .int .i64 mo, .int .i64 bu, .int .i64 st, .bool fi, .int .i64 at', .slice q m d, .int .i64 ti, .int .i64 pa, .int .i64 tr, .int .i64 li], .slice (some ⟨gn, 0, none⟩) 1 1, .int .i64 0])) w' := by
  have bA5 : BxS w' gn 27 (xSeen id).arr := bA.keep u (fun e => BxS.apart bA b4 (by decide) (Option.some.inj e))
  have e1 := h.A.len
  have e2 := h.O.len
  subst e1 e2
  exact ⟨a, c, q, d, _, 1, rfl, h.A.kRR u (fun z e e2 => by have e := Option.some.inj e; subst e; exact own_ty h.A.own b4 (by decide) e2), h.O.bx b4 (by decide) u, OwN.oneN bA5 hl (Ans.nil _ _) (OwGi.nil _ _), (fun z e hz => by have := nbl_one hz; subst this; exact own_ty h.A.own bA (by decide) e), (fun z e hz => by have := nbl_one hz; subst this; exact own_ty h.O.own bA (by decide) e), grown_far h.g u (fun z e => by have e := Option.some.inj e; have := h.l4; omega)⟩
theorem DG.fin2 (h : DG wB w g3 g4 g7 NN id nm mo bu st fi at' ti pa tr li a n c L q m d G) {cs4 : Array Value} (b4 : BxS w g4 44 cs4) (hs4 : cs4.size = 13) {w5 : World} (u : w.grownBy w' (some g4)) {gn : Nat} (bB : BxS w5 gn 27 #[.int .i64 6, .int .i64 id, .string ⟨#[]⟩, .int .i64 0, .int .i64 0, .int .i64 0, .slice none 0 0, .slice none 0 0, .int .i64 5, .int .i64 0]) (y : w'.grownBy w5 none) (hl : w.heap.size ≤ gn) : RpA wB id nm mo bu st fi at' ti pa tr li L G [xSeen id] 0 (.returned (.tuple #[.agg #[.int .i64 id, .string nm, .slice a n c, .int .i64 mo, .int .i64 bu, .int .i64 st, .bool fi, .int .i64 at', .slice q m d, .int .i64 ti, .int .i64 pa, .int .i64 tr, .int .i64 li], .slice (some ⟨gn, 0, none⟩) 1 1, .int .i64 0])) w5 := by
  have bA5 : BxS w5 gn 27 (xSeen id).arr := bB
  have e1 := h.A.len
  have e2 := h.O.len
  subst e1 e2
  have hz := h.g.size
  exact ⟨a, c, q, d, _, 1, rfl, (h.A.kRR u (fun z e e2 => by have e := Option.some.inj e; subst e; exact own_ty h.A.own b4 (by decide) e2)).keep y, (h.O.bx b4 (by decide) u).keep y, OwN.oneN bA5 (by omega) (Ans.nil _ _) (OwGi.nil _ _), (fun z e hz => by have := nbl_one hz; subst this; have := own_ltN h.A.own e; omega), (fun z e hz => by have := nbl_one hz; subst this; have := h.O.lt e; omega), grown_trans (grown_far h.g u (fun z e => by have e := Option.some.inj e; have := h.l4; omega)) y⟩
end

set_option maxHeartbeats 16000000 in
theorem rr_t20 {u0 u1 u2 u5 u6 u8 u9 u10 u11 u12 u13 u14 u15 u16 u17 u18 u19 u20 u21 u22 u23 u24 u25 u26 u27 u28 u29 u30 u31 u32 u33 u34 u35 u36 u37 u38 u39 u40 u41 u42 u43 u44 u45 u46 u47 u48 u49 u50 u51 u52 u53 u54 u55 u56 u57 u58 u59 u60 u61 u62 u63 u64 u65 u66 u67 u68 u69 u70 u71 u72 u73 u74 u75 u76 u77 u78 u79 u80 u81 u82 u83 u84 u85 u86 u87 u88 u89 u90 u91 u92 u93 u94 u95 u96 u97 u98 u99 u100 u101 u102 u103 u104 u105 u106 u107 u108 u109 u110 u111 u112 u113 u114 u115 u116 u117 u118 u119 u120 u121 u122 u123 u124 u125 u126 u127 u128 u129 u130 u131 u132 u133 u134 : Value} (Q : Exit → Act → World → Prop) (wB w : World) (g3 g4 g7 : Nat) (kd nid : Int) (nm2 : ByteArray) (si su at2 : Int) (pa2 : Option Addr) (pn pc : Nat) (ga : Option Addr) (gm gd : Nat) (o co : Int) (id : Int) (nm : ByteArray) (mo bu st : Int) (fi : Bool) (at' ti pa tr li : Int) (a : Option Addr) (n c : Nat) (L : List Nat) (q : Option Addr) (m d : Nat) (G : List (Int × Int)) (h : DG wB w g3 g4 g7 (#[.int .i64 kd, .int .i64 nid, .string nm2, .int .i64 si, .int .i64 su, .int .i64 at2, .slice pa2 pn pc, .slice ga gm gd, .int .i64 o, .int .i64 co]) id nm mo bu st fi at' ti pa tr li a n c L q m d G) (hPn : ∀ c a a' wz, a.defers = a'.defers → Q (.panic c) a wz → Q (.panic c) a' wz) (hQ : ∀ {z61 z62 z63 z64 z65 : Value} w' gn, BxS w' g4 44 #[.int .i64 id, .string nm, .slice a n c, .int .i64 mo, .int .i64 bu, .int .i64 st, .bool fi, .int .i64 at', .slice q m d, .int .i64 ti, .int .i64 pa, .int .i64 tr, .int .i64 li] → RpA wB id nm mo bu st fi at' ti pa tr li L G [xSeen id] 0 (.returned (.tuple #[.agg #[.int .i64 id, .string nm, .slice a n c, .int .i64 mo, .int .i64 bu, .int .i64 st, .bool fi, .int .i64 at', .slice q m d, .int .i64 ti, .int .i64 pa, .int .i64 tr, .int .i64 li], .slice (some ⟨gn, 0, none⟩) 1 1, .int .i64 0])) w' → Q .ret (Act.mk (List.toArray (u0 :: u1 :: u2 :: (.pointer (some ⟨g3, 0, none⟩)) :: (.pointer (some ⟨g4, 0, none⟩)) :: (.slice (some ⟨gn, 0, none⟩) 1 1) :: (.int .i64 0) :: (.pointer (some ⟨g7, 0, none⟩)) :: u8 :: u9 :: u10 :: u11 :: u12 :: u13 :: u14 :: u15 :: u16 :: u17 :: u18 :: u19 :: u20 :: u21 :: u22 :: u23 :: u24 :: u25 :: u26 :: u27 :: u28 :: u29 :: u30 :: u31 :: u32 :: u33 :: u34 :: u35 :: u36 :: u37 :: u38 :: u39 :: u40 :: u41 :: u42 :: u43 :: u44 :: u45 :: u46 :: u47 :: u48 :: u49 :: u50 :: u51 :: u52 :: u53 :: u54 :: u55 :: u56 :: u57 :: u58 :: u59 :: u60 :: z61 :: z62 :: z63 :: z64 :: z65 :: u66 :: u67 :: u68 :: u69 :: u70 :: u71 :: u72 :: u73 :: u74 :: u75 :: u76 :: u77 :: u78 :: u79 :: u80 :: u81 :: u82 :: u83 :: u84 :: u85 :: u86 :: u87 :: u88 :: u89 :: u90 :: u91 :: u92 :: u93 :: u94 :: u95 :: u96 :: u97 :: u98 :: u99 :: u100 :: u101 :: u102 :: u103 :: u104 :: u105 :: u106 :: u107 :: u108 :: u109 :: u110 :: u111 :: u112 :: u113 :: u114 :: u115 :: u116 :: u117 :: u118 :: u119 :: u120 :: u121 :: u122 :: u123 :: u124 :: u125 :: u126 :: u127 :: u128 :: u129 :: u130 :: u131 :: u132 :: u133 :: u134 :: [])) []) w') :
    Code.wp Try.prog (tailR 20 (Try.f33.body.getD .skip)) Q (Act.mk (List.toArray (u0 :: u1 :: u2 :: (.pointer (some ⟨g3, 0, none⟩)) :: (.pointer (some ⟨g4, 0, none⟩)) :: u5 :: u6 :: (.pointer (some ⟨g7, 0, none⟩)) :: u8 :: u9 :: u10 :: u11 :: u12 :: u13 :: u14 :: u15 :: u16 :: u17 :: u18 :: u19 :: u20 :: u21 :: u22 :: u23 :: u24 :: u25 :: u26 :: u27 :: u28 :: u29 :: u30 :: u31 :: u32 :: u33 :: u34 :: u35 :: u36 :: u37 :: u38 :: u39 :: u40 :: u41 :: u42 :: u43 :: u44 :: u45 :: u46 :: u47 :: u48 :: u49 :: u50 :: u51 :: u52 :: u53 :: u54 :: u55 :: u56 :: u57 :: u58 :: u59 :: u60 :: u61 :: u62 :: u63 :: u64 :: u65 :: u66 :: u67 :: u68 :: u69 :: u70 :: u71 :: u72 :: u73 :: u74 :: u75 :: u76 :: u77 :: u78 :: u79 :: u80 :: u81 :: u82 :: u83 :: u84 :: u85 :: u86 :: u87 :: u88 :: u89 :: u90 :: u91 :: u92 :: u93 :: u94 :: u95 :: u96 :: u97 :: u98 :: u99 :: u100 :: u101 :: u102 :: u103 :: u104 :: u105 :: u106 :: u107 :: u108 :: u109 :: u110 :: u111 :: u112 :: u113 :: u114 :: u115 :: u116 :: u117 :: u118 :: u119 :: u120 :: u121 :: u122 :: u123 :: u124 :: u125 :: u126 :: u127 :: u128 :: u129 :: u130 :: u131 :: u132 :: u133 :: u134 :: [])) []) w := by
  conv => enter [2]; whnf
  have HQ : Hid _ := @hQ
  clear hQ
  obtain ⟨cs4, hs4, b4⟩ := h.b4
  have i13 := Try.info_gv
  refine wp_seq_k fun K1 hK1 => ?_
  have HK1 : Hid _ := hK1
  clear hK1
  have Gd := grown_drew w none
  have hd := h.keepN Gd
  have b4d := b4.keep Gd (by simp)
  have SS : BxS w.drew g7 44 #[.int .i64 id, .string nm, .slice a n c, .int .i64 mo, .int .i64 bu, .int .i64 st, .bool fi, .int .i64 at', .slice q m d, .int .i64 ti, .int .i64 pa, .int .i64 tr, .int .i64 li] := hd.b7
  refine wp_regionL (fun wz => BxS wz g7 44 #[.int .i64 id, .string nm, .slice a n c, .int .i64 mo, .int .i64 bu, .int .i64 st, .bool fi, .int .i64 at', .slice q m d, .int .i64 ti, .int .i64 pa, .int .i64 tr, .int .i64 li]) [] #[false, false, false, false, false, false, false, false] rfl (by kernel_rfl) ?_
  refine wpAnyZ_take [] 0 (.agg #[.int .i64 id, .string nm, .slice a n c, .int .i64 mo, .int .i64 bu, .int .i64 st, .bool fi, .int .i64 at', .slice q m d, .int .i64 ti, .int .i64 pa, .int .i64 tr, .int .i64 li]) rfl (by kernel_rfl) (fun _ _ _ h => hPn _ _ _ _ (by rfl) h) SS rfl (by intro wz hz; exact ld_execD rfl rfl hz Try.underlying44 i13) ?_
  try simp only [List.getElem_toArray, List.getElem_cons_succ, List.getElem_cons_zero, Act.put, List.setIfInBounds_toArray, List.set_cons_zero, List.set_cons_succ]
  refine wpAnyZ_take [] 1 (.pointer (some ⟨g7, 0, none⟩)) rfl (by kernel_rfl) (fun _ _ _ h => hPn _ _ _ _ (by rfl) h) SS rfl (by intro wz hz; go_simp) ?_
  try simp only [List.getElem_toArray, List.getElem_cons_succ, List.getElem_cons_zero, Act.put, List.setIfInBounds_toArray, List.set_cons_zero, List.set_cons_succ]
  refine wpAnyZ_take [] 2 (.int .i64 id) rfl (by kernel_rfl) (fun _ _ _ h => hPn _ _ _ _ (by rfl) h) SS rfl (by intro wz hz; have z : wz.cell? ⟨g7, 0, none⟩ = some (.int .i64 id) := hz.cell 0 (by show 0 < 13; decide); go_simp) ?_
  try simp only [List.getElem_toArray, List.getElem_cons_succ, List.getElem_cons_zero, Act.put, List.setIfInBounds_toArray, List.set_cons_zero, List.set_cons_succ]
  refine wpAnyZ_take [] 3 (.agg #[.int .i64 6, .int .i64 id, .string ⟨#[]⟩, .int .i64 0, .int .i64 0, .int .i64 0, .slice none 0 0, .slice none 0 0, .int .i64 5, .int .i64 0]) rfl (by kernel_rfl) (fun _ _ _ h => hPn _ _ _ _ (by rfl) h) SS rfl (by intro wz hz; go_simp) ?_
  try simp only [List.getElem_toArray, List.getElem_cons_succ, List.getElem_cons_zero, Act.put, List.setIfInBounds_toArray, List.set_cons_zero, List.set_cons_succ]
  generalize w.drew = w2 at *
  have bA := BxS.new w2 27 #[.int .i64 6, .int .i64 id, .string ⟨#[]⟩, .int .i64 0, .int .i64 0, .int .i64 0, .slice none 0 0, .slice none 0 0, .int .i64 5, .int .i64 0]
  have yA := World.grownBy_alloc w2 (.cells #[.int .i64 6, .int .i64 id, .string ⟨#[]⟩, .int .i64 0, .int .i64 0, .int .i64 0, .slice none 0 0, .slice none 0 0, .int .i64 5, .int .i64 0] 27) none
  refine wpAnyZ_twoD 4 5 rfl rfl (by kernel_rfl) (fun KK hKK => ?_) (fun KK hKK => ?_)
  · go_simp
    refine hKK _ _ (fun _ => SS.keep yA (by simp)) ?_
    try simp only [List.getElem_toArray, List.getElem_cons_succ, List.getElem_cons_zero, Act.put, List.setIfInBounds_toArray, List.set_cons_zero, List.set_cons_succ]
    have h3 := hd.keepN yA
    have b43 := b4d.keep yA (by simp)
    have l2 := hd.g.size
    have lA := b4d.lt
    generalize w2.alloc (.cells #[.int .i64 6, .int .i64 id, .string ⟨#[]⟩, .int .i64 0, .int .i64 0, .int .i64 0, .slice none 0 0, .slice none 0 0, .int .i64 5, .int .i64 0] 27) = w3 at *
    refine wpAnyZ_oneB 5 rfl (by kernel_rfl) (fun KK hKK => ?_)
    refine step_stX _ rfl _ _ _ rfl g4 _ _ rfl rfl b43 i13 hs4 (by simp [Value.oneCell']) ?_
    intro w5 b45 u5
    have S5 := h3.b7.keep u5 (fun e => h.ne (Option.some.inj e).symm)
    refine hKK _ _ (fun _ => S5) ?_
    try simp only [List.getElem_toArray, List.getElem_cons_succ, List.getElem_cons_zero, Act.put, List.setIfInBounds_toArray, List.set_cons_zero, List.set_cons_succ]
    refine wpAnyZ_take [] 6 (.slice (some ⟨w2.heap.size, 0, none⟩) 1 1) rfl (by kernel_rfl) (fun _ _ _ h => hPn _ _ _ _ (by rfl) h) S5 rfl (by intro wz hz; go_simp) ?_
    try simp only [List.getElem_toArray, List.getElem_cons_succ, List.getElem_cons_zero, Act.put, List.setIfInBounds_toArray, List.set_cons_zero, List.set_cons_succ]
    refine wpAnyZ_take [] 7 (.int .i64 0) rfl (by kernel_rfl) (fun _ _ _ h => hPn _ _ _ _ (by rfl) h) S5 rfl (by intro wz hz; go_simp) ?_
    try simp only [List.getElem_toArray, List.getElem_cons_succ, List.getElem_cons_zero, Act.put, List.setIfInBounds_toArray, List.set_cons_zero, List.set_cons_succ]
    refine wpAnyZ_doneB (by kernel_rfl) ?_ _
    refine HK1.out _ _ ?_
    clear HK1
    go_wp2
    refine HQ.out w5 w2.heap.size b45 ?_
    exact h3.fin1 bA b43 hs4 (by omega) u5
  · refine step_stX _ rfl _ _ _ rfl g4 _ _ rfl rfl b4d i13 hs4 (by simp [Value.oneCell']) ?_
    intro w3 b43 u3
    have S3 := hd.b7.keep u3 (fun e => h.ne (Option.some.inj e).symm)
    refine hKK _ _ (fun _ => S3) ?_
    try simp only [List.getElem_toArray, List.getElem_cons_succ, List.getElem_cons_zero, Act.put, List.setIfInBounds_toArray, List.set_cons_zero, List.set_cons_succ]
    have bB := BxS.new w3 27 #[.int .i64 6, .int .i64 id, .string ⟨#[]⟩, .int .i64 0, .int .i64 0, .int .i64 0, .slice none 0 0, .slice none 0 0, .int .i64 5, .int .i64 0]
    have yB := World.grownBy_alloc w3 (.cells #[.int .i64 6, .int .i64 id, .string ⟨#[]⟩, .int .i64 0, .int .i64 0, .int .i64 0, .slice none 0 0, .slice none 0 0, .int .i64 5, .int .i64 0] 27) none
    refine wpAnyZ_oneB 4 rfl (by kernel_rfl) (fun KK hKK => ?_)
    go_simp
    refine hKK _ _ (fun _ => S3.keep yB (by simp)) ?_
    try simp only [List.getElem_toArray, List.getElem_cons_succ, List.getElem_cons_zero, Act.put, List.setIfInBounds_toArray, List.set_cons_zero, List.set_cons_succ]
    have b45 := b43.keep yB (by simp)
    have S5 := S3.keep yB (by simp)
    have l2 := hd.g.size
    have l3 := u3.size
    have lA := b43.lt
    generalize w3.alloc (.cells #[.int .i64 6, .int .i64 id, .string ⟨#[]⟩, .int .i64 0, .int .i64 0, .int .i64 0, .slice none 0 0, .slice none 0 0, .int .i64 5, .int .i64 0] 27) = w5 at *
    refine wpAnyZ_take [] 6 (.slice (some ⟨w3.heap.size, 0, none⟩) 1 1) rfl (by kernel_rfl) (fun _ _ _ h => hPn _ _ _ _ (by rfl) h) S5 rfl (by intro wz hz; go_simp) ?_
    try simp only [List.getElem_toArray, List.getElem_cons_succ, List.getElem_cons_zero, Act.put, List.setIfInBounds_toArray, List.set_cons_zero, List.set_cons_succ]
    refine wpAnyZ_take [] 7 (.int .i64 0) rfl (by kernel_rfl) (fun _ _ _ h => hPn _ _ _ _ (by rfl) h) S5 rfl (by intro wz hz; go_simp) ?_
    try simp only [List.getElem_toArray, List.getElem_cons_succ, List.getElem_cons_zero, Act.put, List.setIfInBounds_toArray, List.set_cons_zero, List.set_cons_succ]
    refine wpAnyZ_doneB (by kernel_rfl) ?_ _
    refine HK1.out _ _ ?_
    clear HK1
    go_wp2
    refine HQ.out w5 w3.heap.size b45 ?_
    exact hd.fin2 b4d hs4 u3 bB yB (by omega)

set_option maxHeartbeats 16000000 in
theorem rr_t23 {u0 u1 u2 u5 u6 u8 u9 u10 u11 u12 u13 u14 u15 u16 u17 u18 u19 u20 u21 u22 u23 u24 u25 u26 u27 u28 u29 u30 u31 u32 u33 u34 u35 u36 u37 u38 u39 u40 u41 u42 u43 u44 u45 u46 u47 u48 u49 u50 u51 u52 u53 u54 u55 u56 u57 u58 u59 u60 u61 u62 u63 u64 u65 u66 u67 u68 u69 u70 u71 u72 u73 u74 u75 u76 u77 u78 u79 u80 u81 u82 u83 u84 u85 u86 u87 u88 u89 u90 u91 u92 u93 u94 u95 u96 u97 u98 u99 u100 u101 u102 u103 u104 u105 u106 u107 u108 u109 u110 u111 u112 u113 u114 u115 u116 u117 u118 u119 u120 u121 u122 u123 u124 u125 u126 u127 u128 u129 u130 u131 u132 u133 u134 : Value} (P : Ending → World → Prop) (wB w : World) (g3 g4 g7 : Nat) (kd nid : Int) (nm2 : ByteArray) (si su at2 : Int) (pa2 : Option Addr) (pn pc : Nat) (ga : Option Addr) (gm gd : Nat) (o co : Int) (id : Int) (nm : ByteArray) (mo bu st : Int) (fi : Bool) (at' ti pa tr li : Int) (a : Option Addr) (n c : Nat) (L : List Nat) (q : Option Addr) (m d : Nat) (G : List (Int × Int)) (h : DG wB w g3 g4 g7 (#[.int .i64 kd, .int .i64 nid, .string nm2, .int .i64 si, .int .i64 su, .int .i64 at2, .slice pa2 pn pc, .slice ga gm gd, .int .i64 o, .int .i64 co]) id nm mo bu st fi at' ti pa tr li a n c L q m d G) (F2 : Nat → Int × Int) (hF2 : RdG wB ga gm gd F2) (hm : m ≤ 1000) (hal : alG F2 65536 gm = true) (hk : kd = 6 ∨ (kd = 4 ∧ o ≠ 3)) (S2 : Int) (hS2 : (if o = 3 ∧ st = 1 then (2 : Int) else st) = S2) (hP : ∀ e w', RpA wB id nm mo bu S2 fi at' 0 pa 0 li L (agN n G F2 gm) [] 0 e w' → P e w') :
    Code.wp Try.prog (tailR 23 (Try.f33.body.getD .skip)) (bodyPost Try.prog Try.f33 P) (Act.mk (List.toArray (u0 :: u1 :: u2 :: (.pointer (some ⟨g3, 0, none⟩)) :: (.pointer (some ⟨g4, 0, none⟩)) :: u5 :: u6 :: (.pointer (some ⟨g7, 0, none⟩)) :: u8 :: u9 :: u10 :: u11 :: u12 :: u13 :: u14 :: u15 :: u16 :: u17 :: u18 :: u19 :: u20 :: u21 :: u22 :: u23 :: u24 :: u25 :: u26 :: u27 :: u28 :: u29 :: u30 :: u31 :: u32 :: u33 :: u34 :: u35 :: u36 :: u37 :: u38 :: u39 :: u40 :: u41 :: u42 :: u43 :: u44 :: u45 :: u46 :: u47 :: u48 :: u49 :: u50 :: u51 :: u52 :: u53 :: u54 :: u55 :: u56 :: u57 :: u58 :: u59 :: u60 :: u61 :: u62 :: u63 :: u64 :: u65 :: u66 :: u67 :: u68 :: u69 :: u70 :: u71 :: u72 :: u73 :: u74 :: u75 :: u76 :: u77 :: u78 :: u79 :: u80 :: u81 :: u82 :: u83 :: u84 :: u85 :: u86 :: u87 :: u88 :: u89 :: u90 :: u91 :: u92 :: u93 :: u94 :: u95 :: u96 :: u97 :: u98 :: u99 :: u100 :: u101 :: u102 :: u103 :: u104 :: u105 :: u106 :: u107 :: u108 :: u109 :: u110 :: u111 :: u112 :: u113 :: u114 :: u115 :: u116 :: u117 :: u118 :: u119 :: u120 :: u121 :: u122 :: u123 :: u124 :: u125 :: u126 :: u127 :: u128 :: u129 :: u130 :: u131 :: u132 :: u133 :: u134 :: [])) []) w := by
  conv => enter [2]; whnf
  have HP : Hid _ := hP
  clear hP
  refine wp_seq_k fun K1 hK1 => ?_
  have HK1 : Hid _ := hK1
  clear hK1
  have s0 : True := trivial
  go_wp2_with (have _t := s0; clear s0; refine wpList_stC _ rfl _ _ _ rfl g7 9 44 _ #[.int .i64 id, .string nm, .slice a n c, .int .i64 mo, .int .i64 bu, .int .i64 st, .bool fi, .int .i64 at', .slice q m d, .int .i64 0, .int .i64 pa, .int .i64 tr, .int .i64 li] (.int .i64 0) rfl rfl h.b7 (stc_int _ _ _) (by show 9 < 13; decide) rfl ?_; intro w1 bw1 uw1)
  refine HK1.out _ _ ?_
  clear HK1
  have h1 := h.set uw1 bw1
  refine wp_seq_k fun K2 hK2 => ?_
  have HK2 : Hid _ := hK2
  clear hK2
  have s0 : True := trivial
  go_wp2_with (have _t := s0; clear s0; refine wpList_stC _ rfl _ _ _ rfl g7 11 44 _ #[.int .i64 id, .string nm, .slice a n c, .int .i64 mo, .int .i64 bu, .int .i64 st, .bool fi, .int .i64 at', .slice q m d, .int .i64 0, .int .i64 pa, .int .i64 0, .int .i64 li] (.int .i64 0) rfl rfl h1.b7 (stc_int _ _ _) (by show 11 < 13; decide) rfl ?_; intro w2 bw2 uw2)
  refine HK2.out _ _ ?_
  clear HK2
  have h2 := h1.set uw2 bw2
  clear uw1 uw2 bw1 bw2 h1 h
  rcases hk with rfl | ⟨rfl, ho⟩
  · by_cases ho : o = 3
    · by_cases hs1 : st = 1
      · rw [if_pos ⟨ho, hs1⟩] at hS2
        subst ho hs1 hS2
        refine wp_seq_k fun K3 hK3 => ?_
        have HK3 : Hid _ := hK3
        clear hK3
        have x5 : w2.cell? ⟨g7, 5, none⟩ = some (.int .i64 1) := h2.b7.cell 5 (by show 5 < 13; decide)
        have e0 : w2.cell? ⟨g3, 0, none⟩ = some (.int .i64 6) := h2.b3.cell 0 (by show 0 < 10; decide)
        have e8 : w2.cell? ⟨g3, 8, none⟩ = some (.int .i64 3) := h2.b3.cell 8 (by show 8 < 10; decide)
        have s0 : True := trivial
        go_wp2_with (have _t := s0; clear s0; refine wpList_stC _ rfl _ _ _ rfl g7 5 44 _ #[.int .i64 id, .string nm, .slice a n c, .int .i64 mo, .int .i64 bu, .int .i64 2, .bool fi, .int .i64 at', .slice q m d, .int .i64 0, .int .i64 pa, .int .i64 0, .int .i64 li] (.int .i64 2) rfl rfl h2.b7 (stc_stg _ _ _) (by show 5 < 13; decide) rfl ?_; intro w3 bw3 uw3)
        refine HK3.out _ _ ?_
        clear HK3
        have h3 := h2.set uw3 bw3
        refine rr_t27 P wB w3 g3 g4 g7 6 nid nm2 si su at2 pa2 pn pc ga gm gd 3 co id nm mo bu 2 fi at' 0 pa 0 li a n c L q m d G h3 F2 hF2 hm hal ?_
        exact HP.out
      · rw [if_neg (fun h9 => hs1 h9.2)] at hS2
        subst ho hS2
        refine wp_seq_k fun K3 hK3 => ?_
        have HK3 : Hid _ := hK3
        clear hK3
        have x5 : w2.cell? ⟨g7, 5, none⟩ = some (.int .i64 st) := h2.b7.cell 5 (by show 5 < 13; decide)
        have e0 : w2.cell? ⟨g3, 0, none⟩ = some (.int .i64 6) := h2.b3.cell 0 (by show 0 < 10; decide)
        have e8 : w2.cell? ⟨g3, 8, none⟩ = some (.int .i64 3) := h2.b3.cell 8 (by show 8 < 10; decide)
        go_wp2
        refine HK3.out _ _ ?_
        clear HK3
        refine rr_t27 P wB w2 g3 g4 g7 6 nid nm2 si su at2 pa2 pn pc ga gm gd 3 co id nm mo bu st fi at' 0 pa 0 li a n c L q m d G h2 F2 hF2 hm hal ?_
        exact HP.out
    · rw [if_neg (fun h9 => ho h9.1)] at hS2
      subst hS2
      refine wp_seq_k fun K3 hK3 => ?_
      have HK3 : Hid _ := hK3
      clear hK3
      have x5 : w2.cell? ⟨g7, 5, none⟩ = some (.int .i64 st) := h2.b7.cell 5 (by show 5 < 13; decide)
      have e0 : w2.cell? ⟨g3, 0, none⟩ = some (.int .i64 6) := h2.b3.cell 0 (by show 0 < 10; decide)
      have e8 : w2.cell? ⟨g3, 8, none⟩ = some (.int .i64 o) := h2.b3.cell 8 (by show 8 < 10; decide)
      go_wp2
      refine HK3.out _ _ ?_
      clear HK3
      refine rr_t27 P wB w2 g3 g4 g7 6 nid nm2 si su at2 pa2 pn pc ga gm gd o co id nm mo bu st fi at' 0 pa 0 li a n c L q m d G h2 F2 hF2 hm hal ?_
      exact HP.out
  · rw [if_neg (fun h9 => ho h9.1)] at hS2
    subst hS2
    refine wp_seq_k fun K3 hK3 => ?_
    have HK3 : Hid _ := hK3
    clear hK3
    have x5 : w2.cell? ⟨g7, 5, none⟩ = some (.int .i64 st) := h2.b7.cell 5 (by show 5 < 13; decide)
    have e0 : w2.cell? ⟨g3, 0, none⟩ = some (.int .i64 4) := h2.b3.cell 0 (by show 0 < 10; decide)
    have e8 : w2.cell? ⟨g3, 8, none⟩ = some (.int .i64 o) := h2.b3.cell 8 (by show 8 < 10; decide)
    go_wp2
    refine HK3.out _ _ ?_
    clear HK3
    refine rr_t27 P wB w2 g3 g4 g7 4 nid nm2 si su at2 pa2 pn pc ga gm gd o co id nm mo bu st fi at' 0 pa 0 li a n c L q m d G h2 F2 hF2 hm hal ?_
    exact HP.out
end
end Go.Proofs.Ytnimehkfnpepfaa
