import Derived.Test.YtnpkmjdlohdieaaUXA
namespace Go.Proofs.Ytnpkmjdlohdieaa
open Go.RowKit
set_option maxRecDepth 100000
set_option linter.unusedVariables false
set_option linter.unusedSimpArgs false
/-- three may come up -/
theorem wpAnyZ_threeB {P : Program} {ops : Array Oper} {Q : Exit → Act → World → Prop} {md : Region.Mode} {S : World → Prop} {Z : List Nat} (i j l : Nat) {o o' o'' : Oper} {fuel : Nat} {listed : Array Bool} {a : Act} {w : World} (ho : ops[i]? = some o) (ho' : ops[j]? = some o') (ho'' : ops[l]? = some o'') (hr : (Region.ready md ops listed == [i, j, l]) = true)
    (h : ∀ K' : Act → World → Prop, (∀ a w, (i ∉ Z → S w) → wpAnyZ P md ops Q S Z fuel (listed.setIfInBounds i true) a w → K' a w) → if Region.wanted o (yielded ops a.tmps) = true then Oper.wp P o a w K' Q else K' (a.put o.dst undef) w)
    (h' : ∀ K' : Act → World → Prop, (∀ a w, (j ∉ Z → S w) → wpAnyZ P md ops Q S Z fuel (listed.setIfInBounds j true) a w → K' a w) → if Region.wanted o' (yielded ops a.tmps) = true then Oper.wp P o' a w K' Q else K' (a.put o'.dst undef) w)
    (h'' : ∀ K' : Act → World → Prop, (∀ a w, (l ∉ Z → S w) → wpAnyZ P md ops Q S Z fuel (listed.setIfInBounds l true) a w → K' a w) → if Region.wanted o'' (yielded ops a.tmps) = true then Oper.wp P o'' a w K' Q else K' (a.put o''.dst undef) w) :
    wpAnyZ P md ops Q S Z (fuel + 1) listed a w := by
  have hr := eq_of_beq hr
  refine ⟨fun h0 => (by rw [hr] at h0; cases h0), fun k hk => ?_⟩
  rw [hr] at hk
  rcases List.mem_cons.1 hk with e | hk
  · subst e
    exact wpOp_step ho (fun K' hK => h K' (fun a w hS hW => hK a w ⟨hS, hW⟩))
  · rcases List.mem_cons.1 hk with e | hk
    · subst e
      exact wpOp_step ho' (fun K' hK => h' K' (fun a w hS hW => hK a w ⟨hS, hW⟩))
    · have e := List.mem_singleton.1 hk
      subst e
      exact wpOp_step ho'' (fun K' hK => h'' K' (fun a w hS hW => hK a w ⟨hS, hW⟩))
theorem RdM.kept2 {w w' : World} {a : Option Addr} {n cap : Nat} {F : Nat → Mo} {r : Option Nat} (h : RdM w a n cap F) (hg : w.grownBy w' r) (hne : 0 < n → ∀ b off, a = some ⟨b, off, none⟩ → some b ≠ r) : RdM w' a n cap F := by
  by_cases h0 : 0 < n
  · exact h.kept hg (fun b off e _ => hne h0 b off e)
  · exact ⟨h.le, h.max, h.nil, fun h1 => absurd h1 h0⟩
set_option maxHeartbeats 64000000 in
theorem gs_r2 {u0 u1 u7 u8 u9 u10 u14 u15 u16 u17 u18 u19 u20 u21 u22 u23 u24 u25 u26 u27 u28 u29 u30 u31 u32 u33 u34 u35 u36 u37 u38 u39 u40 u41 u42 u43 u44 u45 u46 u47 u48 u49 u50 u51 u52 u53 u54 u55 u56 u57 u58 u59 u60 u61 u62 u63 u64 u65 u66 u67 u68 u69 u70 u71 u72 u73 u74 u75 u76 u77 u78 u79 u80 u81 u82 u83 u84 u85 u86 u87 u88 u89 u90 u91 u92 u93 u94 u95 u96 u97 u98 u99 u100 u101 u102 u103 u104 u105 u106 u107 u108 u109 u110 u111 u112 u113 u114 u115 u116 u117 u118 u119 u120 u121 u122 u123 u124 u125 u126 u127 u128 u129 u130 u131 u132 u133 : Value} (wa : World) (G : Gd) (F : Nat → Mo) (A : Va) (D : Vi) (Vs : List Int) (g5 g6 g11 Er : Nat) (va na : Option Addr) (vn vc nn nc : Nat) (he le : Bool)
    (b5 : BxS wa g5 24 #[.slice G.ma G.n G.mc, .int .i64 G.si, .int .i64 G.mo, .int .i64 G.wi, .string G.sa]) (b6 : BxS wa g6 29 #[.bool D.sf, .int .i64 D.wy, .slice A.ab A.nb A.cb, .slice A.ap A.np A.cp, .int .i64 D.qu, .slice A.at' A.nt A.ct]) (hM : RdM wa G.ma G.n G.mc F) (hV : RdVg wa A D) (hX : RdX wa va vn vc (zys Vs))
    (n1 : G.n ≤ 2600000000000) (n2 : A.nb ≤ 17592186043904 ∧ A.np ≤ 140737488351232 ∧ A.nt ≤ 17592186043904) (n3 : vn ≤ 17592186043904) (Q : Exit → Act → World → Prop) (hP : ∀ x (a a' : Act) w, a.defers = a'.defers → Q (.panic x) a w → Q (.panic x) a' w)
    (hQq : ∀ (z35 z36 z37 z38 z39 z40 : Value) (g14 g15 : Nat) (q : Option Addr) (c : Nat) (A2 : Va) (xa : Option Addr) (xc : Nat) (wy : World), BxS wy g14 24 #[.slice q G.n c, .int .i64 G.si, .int .i64 G.mo, .int .i64 G.wi, .string G.sa] → BxS wy g15 29 #[.bool D.sf, .int .i64 D.wy, .slice A2.ab A2.nb A2.cb, .slice A2.ap A2.np A2.cp, .int .i64 D.qu, .slice A2.at' A2.nt A2.ct] → RdM wy q G.n c F → OwVg wy wa.heap.size A2 D → RdX wy xa vn xc (zys Vs) → wa.grownBy wy none → Q .normal (Act.mk (List.toArray (u0 :: u1 :: (.slice va vn vc) :: (.bool he) :: (.bool le) :: (.pointer (some ⟨g5, 0, none⟩)) :: (.pointer (some ⟨g6, 0, none⟩)) :: u7 :: u8 :: u9 :: u10 :: (.pointer (some ⟨g11, 0, none⟩)) :: (.slice na nn nc) :: (.int .i64 (Er : Int)) :: (.pointer (some ⟨g14, 0, none⟩)) :: (.pointer (some ⟨g15, 0, none⟩)) :: (.slice xa vn xc) :: u17 :: u18 :: u19 :: u20 :: u21 :: u22 :: u23 :: u24 :: u25 :: u26 :: u27 :: u28 :: u29 :: u30 :: u31 :: u32 :: u33 :: u34 :: z35 :: z36 :: z37 :: z38 :: z39 :: z40 :: u41 :: u42 :: u43 :: u44 :: u45 :: u46 :: u47 :: u48 :: u49 :: u50 :: u51 :: u52 :: u53 :: u54 :: u55 :: u56 :: u57 :: u58 :: u59 :: u60 :: u61 :: u62 :: u63 :: u64 :: u65 :: u66 :: u67 :: u68 :: u69 :: u70 :: u71 :: u72 :: u73 :: u74 :: u75 :: u76 :: u77 :: u78 :: u79 :: u80 :: u81 :: u82 :: u83 :: u84 :: u85 :: u86 :: u87 :: u88 :: u89 :: u90 :: u91 :: u92 :: u93 :: u94 :: u95 :: u96 :: u97 :: u98 :: u99 :: u100 :: u101 :: u102 :: u103 :: u104 :: u105 :: u106 :: u107 :: u108 :: u109 :: u110 :: u111 :: u112 :: u113 :: u114 :: u115 :: u116 :: u117 :: u118 :: u119 :: u120 :: u121 :: u122 :: u123 :: u124 :: u125 :: u126 :: u127 :: u128 :: u129 :: u130 :: u131 :: u132 :: u133 :: [])) []) wy) :
    Code.wp Try.prog (headS (tailR 2 (Try.f4.body.getD .skip))) Q (Act.mk (List.toArray (u0 :: u1 :: (.slice va vn vc) :: (.bool he) :: (.bool le) :: (.pointer (some ⟨g5, 0, none⟩)) :: (.pointer (some ⟨g6, 0, none⟩)) :: u7 :: u8 :: u9 :: u10 :: (.pointer (some ⟨g11, 0, none⟩)) :: (.slice na nn nc) :: (.int .i64 (Er : Int)) :: u14 :: u15 :: u16 :: u17 :: u18 :: u19 :: u20 :: u21 :: u22 :: u23 :: u24 :: u25 :: u26 :: u27 :: u28 :: u29 :: u30 :: u31 :: u32 :: u33 :: u34 :: u35 :: u36 :: u37 :: u38 :: u39 :: u40 :: u41 :: u42 :: u43 :: u44 :: u45 :: u46 :: u47 :: u48 :: u49 :: u50 :: u51 :: u52 :: u53 :: u54 :: u55 :: u56 :: u57 :: u58 :: u59 :: u60 :: u61 :: u62 :: u63 :: u64 :: u65 :: u66 :: u67 :: u68 :: u69 :: u70 :: u71 :: u72 :: u73 :: u74 :: u75 :: u76 :: u77 :: u78 :: u79 :: u80 :: u81 :: u82 :: u83 :: u84 :: u85 :: u86 :: u87 :: u88 :: u89 :: u90 :: u91 :: u92 :: u93 :: u94 :: u95 :: u96 :: u97 :: u98 :: u99 :: u100 :: u101 :: u102 :: u103 :: u104 :: u105 :: u106 :: u107 :: u108 :: u109 :: u110 :: u111 :: u112 :: u113 :: u114 :: u115 :: u116 :: u117 :: u118 :: u119 :: u120 :: u121 :: u122 :: u123 :: u124 :: u125 :: u126 :: u127 :: u128 :: u129 :: u130 :: u131 :: u132 :: u133 :: [])) []) wa := by
  conv => enter [2]; whnf
  have kG := fun wz (h : RdM wz G.ma G.n G.mc F) => guardOwn2_any G.ma G.n G.mc G.si G.mo G.wi G.sa F wz h n1
  have kV := fun wz (h : RdVg wz A D) => vigilOf2_any A D wz h n2.1 n2.2.1 n2.2.2
  have kC := fun wz (h : RdX wz va vn vc (zys Vs)) => copied2_any va vn vc Vs wz h n3
  unfold vgA at kV
  have i5 := Try.info_gd
  have i6 := Try.info_vg
  have SS := grown_drew wa none
  refine wp_regionL (fun wz => wa.grownBy wz none) [8, 9, 10] #[false, false, false, false, false, false, false, false, false, false, false] rfl (by kernel_rfl) ?_
  refine wpAnyZ_take [8, 9, 10] 0 (.agg #[.slice G.ma G.n G.mc, .int .i64 G.si, .int .i64 G.mo, .int .i64 G.wi, .string G.sa]) rfl (by kernel_rfl) (fun _ _ _ h => hP _ _ _ _ (by rfl) h) SS rfl (by intro wz hz; have cz := b5.keep hz (by simp); obtain ⟨z0, z1, z2, z3, z4⟩ := BxS.cell5 cz; go_simp) ?_
  try simp only [List.getElem_toArray, List.getElem_cons_succ, List.getElem_cons_zero, Act.put, List.setIfInBounds_toArray, List.set_cons_zero, List.set_cons_succ]
  refine wpAnyZ_take [3, 5, 8, 9, 10] 2 (.agg #[.bool D.sf, .int .i64 D.wy, .slice A.ab A.nb A.cb, .slice A.ap A.np A.cp, .int .i64 D.qu, .slice A.at' A.nt A.ct]) rfl (by kernel_rfl) (fun _ _ _ h => hP _ _ _ _ (by rfl) h) SS rfl (by intro wz hz; have cz := b6.keep hz (by simp); obtain ⟨z0, z1, z2, z3, z4, z5⟩ := BxS.cell6 cz; go_simp) ?_
  try simp only [List.getElem_toArray, List.getElem_cons_succ, List.getElem_cons_zero, Act.put, List.setIfInBounds_toArray, List.set_cons_zero, List.set_cons_succ]
  refine wpAnyZ_take [5, 8, 9, 10] 4 (.slice va vn vc) rfl (by kernel_rfl) (fun _ _ _ h => hP _ _ _ _ (by rfl) h) SS rfl (by intro wz hz; go_simp) ?_
  try simp only [List.getElem_toArray, List.getElem_cons_succ, List.getElem_cons_zero, Act.put, List.setIfInBounds_toArray, List.set_cons_zero, List.set_cons_succ]
  generalize wa.drew = x0 at *
  refine wpAnyZ_threeB 1 6 7 rfl rfl rfl (by kernel_rfl) (fun K hK => ?_) (fun K hK => ?_) (fun K hK => ?_)
  · go_simp
    go_at_call 6
    refine (kG _ (hM.keep SS)).mono ?_
    rintro e x1 ⟨q, c, rfl, hQ, hq, gX⟩
    dsimp only
    have hqb : 0 < G.n → ∀ b off, q = some ⟨b, off, none⟩ → x0.heap.size ≤ b ∧ b < x1.heap.size := fun h0 b off e => ⟨hq b off e, by obtain ⟨b2, o2, e2, hb2, _⟩ := hQ.at' h0; rw [e] at e2; cases e2; exact hb2⟩
    clear hq
    have SS := grown_trans SS gX
    refine hK _ _ (fun _ => SS) ?_
    try simp only [List.getElem_toArray, List.getElem_cons_succ, List.getElem_cons_zero, Act.put, List.setIfInBounds_toArray, List.set_cons_zero, List.set_cons_succ]
    have sz1 := gX.size
    clear gX
    refine wpAnyZ_threeB 3 6 7 rfl rfl rfl (by kernel_rfl) (fun K hK => ?_) (fun K hK => ?_) (fun K hK => ?_)
    · go_simp
      go_at_call 15
      refine (kV _ (hV.keep SS)).mono ?_
      rintro e x2 ⟨A2, rfl, hO0, gX⟩
      dsimp only
      have sz0 := SS.size
      have hO : OwVg _ wa.heap.size A2 D := ⟨hO0.b.low sz0, hO0.p.low sz0, hO0.t.low sz0, hO0.ne⟩
      clear hO0 sz0
      have hQ := hQ.keep gX
      have SS := grown_trans SS gX
      refine hK _ _ (fun _ => SS) ?_
      try simp only [List.getElem_toArray, List.getElem_cons_succ, List.getElem_cons_zero, Act.put, List.setIfInBounds_toArray, List.set_cons_zero, List.set_cons_succ]
      have sz2 := gX.size
      clear gX
      refine wpAnyZ_threeB 5 6 7 rfl rfl rfl (by kernel_rfl) (fun K hK => ?_) (fun K hK => ?_) (fun K hK => ?_)
      · go_simp
        go_at_call 16
        refine (kC _ (hX.keep SS)).mono ?_
        rintro e x3 ⟨xa, xc, rfl, hC, gX⟩
        dsimp only
        have hQ := hQ.keep gX
        have hO := hO.keep gX
        have SS := grown_trans SS gX
        refine hK _ _ (fun _ => SS) ?_
        try simp only [List.getElem_toArray, List.getElem_cons_succ, List.getElem_cons_zero, Act.put, List.setIfInBounds_toArray, List.set_cons_zero, List.set_cons_succ]
        have sz3 := gX.size
        clear gX
        refine wpAnyZ_twoB 6 7 rfl rfl (by kernel_rfl) (fun K hK => ?_) (fun K hK => ?_)
        · go_simp
          have gX := World.grownBy_alloc x3 (.cells #[.slice none 0 0, .int .i64 0, .int .i64 0, .int .i64 0, .string ⟨#[]⟩] 24) none
          have p14 := BxS.new x3 24 #[.slice none 0 0, .int .i64 0, .int .i64 0, .int .i64 0, .string ⟨#[]⟩]
          have n14 : wa.heap.size ≤ x3.heap.size := SS.size
          have hQ := hQ.keep gX
          have hO := hO.keep gX
          have hC := hC.keep gX
          have SS := grown_trans SS gX
          refine hK _ _ (fun _ => SS) ?_
          try simp only [List.getElem_toArray, List.getElem_cons_succ, List.getElem_cons_zero, Act.put, List.setIfInBounds_toArray, List.set_cons_zero, List.set_cons_succ]
          generalize hz4 : x3.alloc (.cells #[.slice none 0 0, .int .i64 0, .int .i64 0, .int .i64 0, .string ⟨#[]⟩] 24) = x4 at *
          have sz4 : x3.heap.size + 1 ≤ x4.heap.size := by rw [← hz4]; simp
          clear hz4 gX
          refine wpAnyZ_oneB 7 rfl (by kernel_rfl) (fun K hK => ?_)
          go_simp
          have gX := World.grownBy_alloc x4 (.cells #[.bool false, .int .i64 0, .slice none 0 0, .slice none 0 0, .int .i64 0, .slice none 0 0] 29) none
          have p15 := BxS.new x4 29 #[.bool false, .int .i64 0, .slice none 0 0, .slice none 0 0, .int .i64 0, .slice none 0 0]
          have n15 : wa.heap.size ≤ x4.heap.size := SS.size
          have hQ := hQ.keep gX
          have hO := hO.keep gX
          have hC := hC.keep gX
          have p14 := p14.keep gX (by simp)
          have SS := grown_trans SS gX
          refine hK _ _ (fun _ => SS) ?_
          try simp only [List.getElem_toArray, List.getElem_cons_succ, List.getElem_cons_zero, Act.put, List.setIfInBounds_toArray, List.set_cons_zero, List.set_cons_succ]
          generalize hz5 : x4.alloc (.cells #[.bool false, .int .i64 0, .slice none 0 0, .slice none 0 0, .int .i64 0, .slice none 0 0] 29) = x5 at *
          have sz5 : x4.heap.size + 1 ≤ x5.heap.size := by rw [← hz5]; simp
          clear hz5 gX
          have u4 := p14.lt
          have u5 := p15.lt
          have ne45 : x3.heap.size ≠ x4.heap.size := by omega
          refine wpAnyZ_oneB 8 rfl (by kernel_rfl) (fun K hK => ?_)
          refine step_stX _ rfl 24 (.tmp 14) (.tmp 36) rfl x3.heap.size _ _ rfl rfl p14 i5 rfl (by simp [Value.oneCell']) ?_
          intro y8 b14 u8
          refine hK _ _ (fun h => absurd (by decide) h) ?_
          try simp only [List.getElem_toArray, List.getElem_cons_succ, List.getElem_cons_zero, Act.put, List.setIfInBounds_toArray, List.set_cons_zero, List.set_cons_succ]
          have p15 := p15.keep u8 (fun e => ne45 (Option.some.inj e).symm)
          refine wpAnyZ_oneB 9 rfl (by kernel_rfl) (fun K hK => ?_)
          refine step_stX _ rfl 29 (.tmp 15) (.tmp 38) rfl x4.heap.size _ _ rfl rfl p15 i6 rfl (by simp [Value.oneCell']) ?_
          intro y9 b15 u9
          refine hK _ _ (fun h => absurd (by decide) h) ?_
          try simp only [List.getElem_toArray, List.getElem_cons_succ, List.getElem_cons_zero, Act.put, List.setIfInBounds_toArray, List.set_cons_zero, List.set_cons_succ]
          refine wpAnyZ_takeF 10 (.slice xa vn xc) rfl (by kernel_rfl) (fun _ _ _ h => hP _ _ _ _ (by rfl) h) rfl (by intro wz; go_simp) ?_
          try simp only [List.getElem_toArray, List.getElem_cons_succ, List.getElem_cons_zero, Act.put, List.setIfInBounds_toArray, List.set_cons_zero, List.set_cons_succ]
          refine wpAnyZ_doneB (by kernel_rfl) ?_ _
          have b14 := b14.keep u9 (fun e => ne45 (Option.some.inj e))
          have hQ8 := hQ.kept2 u8 (fun h0 b off e e2 => by have := hqb h0 b off e; have e2 := Option.some.inj e2; omega)
          have hQ9 := hQ8.kept2 u9 (fun h0 b off e e2 => by have := hqb h0 b off e; have e2 := Option.some.inj e2; omega)
          have hO8 : OwVg y8 wa.heap.size A2 D := ⟨hO.b.kept u8 (.inr (hO.b.ne_box p14 (by decide))), hO.p.kept u8 (.inr (hO.p.ne_box p14 (by decide))), hO.t.kept u8 (.inr (hO.t.ne_box p14 (by decide))), hO.ne⟩
          have hO9 : OwVg y9 wa.heap.size A2 D := ⟨hO8.b.kept u9 (.inr (hO8.b.ne_box p15 (by decide))), hO8.p.kept u9 (.inr (hO8.p.ne_box p15 (by decide))), hO8.t.kept u9 (.inr (hO8.t.ne_box p15 (by decide))), hO.ne⟩
          have hC8 := hC.kept u8 (.inr (hC.ne_box p14 (by decide)))
          have hC9 := hC8.kept u9 (.inr (hC8.ne_box p15 (by decide)))
          have GR : wa.grownBy y9 none := grown_far (grown_far SS u8 (fun q e => by have e := Option.some.inj e; omega)) u9 (fun q e => by have e := Option.some.inj e; omega)
          exact hQq _ _ _ _ _ _ x3.heap.size x4.heap.size q c A2 xa xc y9 b14 b15 hQ9 hO9 hC9.rd GR
        · go_simp
          have gX := World.grownBy_alloc x3 (.cells #[.bool false, .int .i64 0, .slice none 0 0, .slice none 0 0, .int .i64 0, .slice none 0 0] 29) none
          have p15 := BxS.new x3 29 #[.bool false, .int .i64 0, .slice none 0 0, .slice none 0 0, .int .i64 0, .slice none 0 0]
          have n15 : wa.heap.size ≤ x3.heap.size := SS.size
          have hQ := hQ.keep gX
          have hO := hO.keep gX
          have hC := hC.keep gX
          have SS := grown_trans SS gX
          refine hK _ _ (fun _ => SS) ?_
          try simp only [List.getElem_toArray, List.getElem_cons_succ, List.getElem_cons_zero, Act.put, List.setIfInBounds_toArray, List.set_cons_zero, List.set_cons_succ]
          generalize hz4 : x3.alloc (.cells #[.bool false, .int .i64 0, .slice none 0 0, .slice none 0 0, .int .i64 0, .slice none 0 0] 29) = x4 at *
          have sz4 : x3.heap.size + 1 ≤ x4.heap.size := by rw [← hz4]; simp
          clear hz4 gX
          refine wpAnyZ_oneB 6 rfl (by kernel_rfl) (fun K hK => ?_)
          go_simp
          have gX := World.grownBy_alloc x4 (.cells #[.slice none 0 0, .int .i64 0, .int .i64 0, .int .i64 0, .string ⟨#[]⟩] 24) none
          have p14 := BxS.new x4 24 #[.slice none 0 0, .int .i64 0, .int .i64 0, .int .i64 0, .string ⟨#[]⟩]
          have n14 : wa.heap.size ≤ x4.heap.size := SS.size
          have hQ := hQ.keep gX
          have hO := hO.keep gX
          have hC := hC.keep gX
          have p15 := p15.keep gX (by simp)
          have SS := grown_trans SS gX
          refine hK _ _ (fun _ => SS) ?_
          try simp only [List.getElem_toArray, List.getElem_cons_succ, List.getElem_cons_zero, Act.put, List.setIfInBounds_toArray, List.set_cons_zero, List.set_cons_succ]
          generalize hz5 : x4.alloc (.cells #[.slice none 0 0, .int .i64 0, .int .i64 0, .int .i64 0, .string ⟨#[]⟩] 24) = x5 at *
          have sz5 : x4.heap.size + 1 ≤ x5.heap.size := by rw [← hz5]; simp
          clear hz5 gX
          have u4 := p14.lt
          have u5 := p15.lt
          have ne45 : x4.heap.size ≠ x3.heap.size := by omega
          refine wpAnyZ_oneB 8 rfl (by kernel_rfl) (fun K hK => ?_)
          refine step_stX _ rfl 24 (.tmp 14) (.tmp 36) rfl x4.heap.size _ _ rfl rfl p14 i5 rfl (by simp [Value.oneCell']) ?_
          intro y8 b14 u8
          refine hK _ _ (fun h => absurd (by decide) h) ?_
          try simp only [List.getElem_toArray, List.getElem_cons_succ, List.getElem_cons_zero, Act.put, List.setIfInBounds_toArray, List.set_cons_zero, List.set_cons_succ]
          have p15 := p15.keep u8 (fun e => ne45 (Option.some.inj e).symm)
          refine wpAnyZ_oneB 9 rfl (by kernel_rfl) (fun K hK => ?_)
          refine step_stX _ rfl 29 (.tmp 15) (.tmp 38) rfl x3.heap.size _ _ rfl rfl p15 i6 rfl (by simp [Value.oneCell']) ?_
          intro y9 b15 u9
          refine hK _ _ (fun h => absurd (by decide) h) ?_
          try simp only [List.getElem_toArray, List.getElem_cons_succ, List.getElem_cons_zero, Act.put, List.setIfInBounds_toArray, List.set_cons_zero, List.set_cons_succ]
          refine wpAnyZ_takeF 10 (.slice xa vn xc) rfl (by kernel_rfl) (fun _ _ _ h => hP _ _ _ _ (by rfl) h) rfl (by intro wz; go_simp) ?_
          try simp only [List.getElem_toArray, List.getElem_cons_succ, List.getElem_cons_zero, Act.put, List.setIfInBounds_toArray, List.set_cons_zero, List.set_cons_succ]
          refine wpAnyZ_doneB (by kernel_rfl) ?_ _
          have b14 := b14.keep u9 (fun e => ne45 (Option.some.inj e))
          have hQ8 := hQ.kept2 u8 (fun h0 b off e e2 => by have := hqb h0 b off e; have e2 := Option.some.inj e2; omega)
          have hQ9 := hQ8.kept2 u9 (fun h0 b off e e2 => by have := hqb h0 b off e; have e2 := Option.some.inj e2; omega)
          have hO8 : OwVg y8 wa.heap.size A2 D := ⟨hO.b.kept u8 (.inr (hO.b.ne_box p14 (by decide))), hO.p.kept u8 (.inr (hO.p.ne_box p14 (by decide))), hO.t.kept u8 (.inr (hO.t.ne_box p14 (by decide))), hO.ne⟩
          have hO9 : OwVg y9 wa.heap.size A2 D := ⟨hO8.b.kept u9 (.inr (hO8.b.ne_box p15 (by decide))), hO8.p.kept u9 (.inr (hO8.p.ne_box p15 (by decide))), hO8.t.kept u9 (.inr (hO8.t.ne_box p15 (by decide))), hO.ne⟩
          have hC8 := hC.kept u8 (.inr (hC.ne_box p14 (by decide)))
          have hC9 := hC8.kept u9 (.inr (hC8.ne_box p15 (by decide)))
          have GR : wa.grownBy y9 none := grown_far (grown_far SS u8 (fun q e => by have e := Option.some.inj e; omega)) u9 (fun q e => by have e := Option.some.inj e; omega)
          exact hQq _ _ _ _ _ _ x4.heap.size x3.heap.size q c A2 xa xc y9 b14 b15 hQ9 hO9 hC9.rd GR
      · go_simp
        have gX := World.grownBy_alloc x2 (.cells #[.slice none 0 0, .int .i64 0, .int .i64 0, .int .i64 0, .string ⟨#[]⟩] 24) none
        have p14 := BxS.new x2 24 #[.slice none 0 0, .int .i64 0, .int .i64 0, .int .i64 0, .string ⟨#[]⟩]
        have n14 : wa.heap.size ≤ x2.heap.size := SS.size
        have hQ := hQ.keep gX
        have hO := hO.keep gX
        have SS := grown_trans SS gX
        refine hK _ _ (fun _ => SS) ?_
        try simp only [List.getElem_toArray, List.getElem_cons_succ, List.getElem_cons_zero, Act.put, List.setIfInBounds_toArray, List.set_cons_zero, List.set_cons_succ]
        generalize hz3 : x2.alloc (.cells #[.slice none 0 0, .int .i64 0, .int .i64 0, .int .i64 0, .string ⟨#[]⟩] 24) = x3 at *
        have sz3 : x2.heap.size + 1 ≤ x3.heap.size := by rw [← hz3]; simp
        clear hz3 gX
        refine wpAnyZ_twoB 5 7 rfl rfl (by kernel_rfl) (fun K hK => ?_) (fun K hK => ?_)
        · go_simp
          go_at_call 16
          refine (kC _ (hX.keep SS)).mono ?_
          rintro e x4 ⟨xa, xc, rfl, hC, gX⟩
          dsimp only
          have hQ := hQ.keep gX
          have hO := hO.keep gX
          have p14 := p14.keep gX (by simp)
          have SS := grown_trans SS gX
          refine hK _ _ (fun _ => SS) ?_
          try simp only [List.getElem_toArray, List.getElem_cons_succ, List.getElem_cons_zero, Act.put, List.setIfInBounds_toArray, List.set_cons_zero, List.set_cons_succ]
          have sz4 := gX.size
          clear gX
          refine wpAnyZ_oneB 7 rfl (by kernel_rfl) (fun K hK => ?_)
          go_simp
          have gX := World.grownBy_alloc x4 (.cells #[.bool false, .int .i64 0, .slice none 0 0, .slice none 0 0, .int .i64 0, .slice none 0 0] 29) none
          have p15 := BxS.new x4 29 #[.bool false, .int .i64 0, .slice none 0 0, .slice none 0 0, .int .i64 0, .slice none 0 0]
          have n15 : wa.heap.size ≤ x4.heap.size := SS.size
          have hQ := hQ.keep gX
          have hO := hO.keep gX
          have hC := hC.keep gX
          have p14 := p14.keep gX (by simp)
          have SS := grown_trans SS gX
          refine hK _ _ (fun _ => SS) ?_
          try simp only [List.getElem_toArray, List.getElem_cons_succ, List.getElem_cons_zero, Act.put, List.setIfInBounds_toArray, List.set_cons_zero, List.set_cons_succ]
          generalize hz5 : x4.alloc (.cells #[.bool false, .int .i64 0, .slice none 0 0, .slice none 0 0, .int .i64 0, .slice none 0 0] 29) = x5 at *
          have sz5 : x4.heap.size + 1 ≤ x5.heap.size := by rw [← hz5]; simp
          clear hz5 gX
          have u4 := p14.lt
          have u5 := p15.lt
          have ne45 : x2.heap.size ≠ x4.heap.size := by omega
          refine wpAnyZ_oneB 8 rfl (by kernel_rfl) (fun K hK => ?_)
          refine step_stX _ rfl 24 (.tmp 14) (.tmp 36) rfl x2.heap.size _ _ rfl rfl p14 i5 rfl (by simp [Value.oneCell']) ?_
          intro y8 b14 u8
          refine hK _ _ (fun h => absurd (by decide) h) ?_
          try simp only [List.getElem_toArray, List.getElem_cons_succ, List.getElem_cons_zero, Act.put, List.setIfInBounds_toArray, List.set_cons_zero, List.set_cons_succ]
          have p15 := p15.keep u8 (fun e => ne45 (Option.some.inj e).symm)
          refine wpAnyZ_oneB 9 rfl (by kernel_rfl) (fun K hK => ?_)
          refine step_stX _ rfl 29 (.tmp 15) (.tmp 38) rfl x4.heap.size _ _ rfl rfl p15 i6 rfl (by simp [Value.oneCell']) ?_
          intro y9 b15 u9
          refine hK _ _ (fun h => absurd (by decide) h) ?_
          try simp only [List.getElem_toArray, List.getElem_cons_succ, List.getElem_cons_zero, Act.put, List.setIfInBounds_toArray, List.set_cons_zero, List.set_cons_succ]
          refine wpAnyZ_takeF 10 (.slice xa vn xc) rfl (by kernel_rfl) (fun _ _ _ h => hP _ _ _ _ (by rfl) h) rfl (by intro wz; go_simp) ?_
          try simp only [List.getElem_toArray, List.getElem_cons_succ, List.getElem_cons_zero, Act.put, List.setIfInBounds_toArray, List.set_cons_zero, List.set_cons_succ]
          refine wpAnyZ_doneB (by kernel_rfl) ?_ _
          have b14 := b14.keep u9 (fun e => ne45 (Option.some.inj e))
          have hQ8 := hQ.kept2 u8 (fun h0 b off e e2 => by have := hqb h0 b off e; have e2 := Option.some.inj e2; omega)
          have hQ9 := hQ8.kept2 u9 (fun h0 b off e e2 => by have := hqb h0 b off e; have e2 := Option.some.inj e2; omega)
          have hO8 : OwVg y8 wa.heap.size A2 D := ⟨hO.b.kept u8 (.inr (hO.b.ne_box p14 (by decide))), hO.p.kept u8 (.inr (hO.p.ne_box p14 (by decide))), hO.t.kept u8 (.inr (hO.t.ne_box p14 (by decide))), hO.ne⟩
          have hO9 : OwVg y9 wa.heap.size A2 D := ⟨hO8.b.kept u9 (.inr (hO8.b.ne_box p15 (by decide))), hO8.p.kept u9 (.inr (hO8.p.ne_box p15 (by decide))), hO8.t.kept u9 (.inr (hO8.t.ne_box p15 (by decide))), hO.ne⟩
          have hC8 := hC.kept u8 (.inr (hC.ne_box p14 (by decide)))
          have hC9 := hC8.kept u9 (.inr (hC8.ne_box p15 (by decide)))
          have GR : wa.grownBy y9 none := grown_far (grown_far SS u8 (fun q e => by have e := Option.some.inj e; omega)) u9 (fun q e => by have e := Option.some.inj e; omega)
          exact hQq _ _ _ _ _ _ x2.heap.size x4.heap.size q c A2 xa xc y9 b14 b15 hQ9 hO9 hC9.rd GR
        · go_simp
          have gX := World.grownBy_alloc x3 (.cells #[.bool false, .int .i64 0, .slice none 0 0, .slice none 0 0, .int .i64 0, .slice none 0 0] 29) none
          have p15 := BxS.new x3 29 #[.bool false, .int .i64 0, .slice none 0 0, .slice none 0 0, .int .i64 0, .slice none 0 0]
          have n15 : wa.heap.size ≤ x3.heap.size := SS.size
          have hQ := hQ.keep gX
          have hO := hO.keep gX
          have p14 := p14.keep gX (by simp)
          have SS := grown_trans SS gX
          refine hK _ _ (fun _ => SS) ?_
          try simp only [List.getElem_toArray, List.getElem_cons_succ, List.getElem_cons_zero, Act.put, List.setIfInBounds_toArray, List.set_cons_zero, List.set_cons_succ]
          generalize hz4 : x3.alloc (.cells #[.bool false, .int .i64 0, .slice none 0 0, .slice none 0 0, .int .i64 0, .slice none 0 0] 29) = x4 at *
          have sz4 : x3.heap.size + 1 ≤ x4.heap.size := by rw [← hz4]; simp
          clear hz4 gX
          refine wpAnyZ_oneB 5 rfl (by kernel_rfl) (fun K hK => ?_)
          go_simp
          go_at_call 16
          refine (kC _ (hX.keep SS)).mono ?_
          rintro e x5 ⟨xa, xc, rfl, hC, gX⟩
          dsimp only
          have hQ := hQ.keep gX
          have hO := hO.keep gX
          have p14 := p14.keep gX (by simp)
          have p15 := p15.keep gX (by simp)
          have SS := grown_trans SS gX
          refine hK _ _ (fun _ => SS) ?_
          try simp only [List.getElem_toArray, List.getElem_cons_succ, List.getElem_cons_zero, Act.put, List.setIfInBounds_toArray, List.set_cons_zero, List.set_cons_succ]
          have sz5 := gX.size
          clear gX
          have u4 := p14.lt
          have u5 := p15.lt
          have ne45 : x2.heap.size ≠ x3.heap.size := by omega
          refine wpAnyZ_oneB 8 rfl (by kernel_rfl) (fun K hK => ?_)
          refine step_stX _ rfl 24 (.tmp 14) (.tmp 36) rfl x2.heap.size _ _ rfl rfl p14 i5 rfl (by simp [Value.oneCell']) ?_
          intro y8 b14 u8
          refine hK _ _ (fun h => absurd (by decide) h) ?_
          try simp only [List.getElem_toArray, List.getElem_cons_succ, List.getElem_cons_zero, Act.put, List.setIfInBounds_toArray, List.set_cons_zero, List.set_cons_succ]
          have p15 := p15.keep u8 (fun e => ne45 (Option.some.inj e).symm)
          refine wpAnyZ_oneB 9 rfl (by kernel_rfl) (fun K hK => ?_)
          refine step_stX _ rfl 29 (.tmp 15) (.tmp 38) rfl x3.heap.size _ _ rfl rfl p15 i6 rfl (by simp [Value.oneCell']) ?_
          intro y9 b15 u9
          refine hK _ _ (fun h => absurd (by decide) h) ?_
          try simp only [List.getElem_toArray, List.getElem_cons_succ, List.getElem_cons_zero, Act.put, List.setIfInBounds_toArray, List.set_cons_zero, List.set_cons_succ]
          refine wpAnyZ_takeF 10 (.slice xa vn xc) rfl (by kernel_rfl) (fun _ _ _ h => hP _ _ _ _ (by rfl) h) rfl (by intro wz; go_simp) ?_
          try simp only [List.getElem_toArray, List.getElem_cons_succ, List.getElem_cons_zero, Act.put, List.setIfInBounds_toArray, List.set_cons_zero, List.set_cons_succ]
          refine wpAnyZ_doneB (by kernel_rfl) ?_ _
          have b14 := b14.keep u9 (fun e => ne45 (Option.some.inj e))
          have hQ8 := hQ.kept2 u8 (fun h0 b off e e2 => by have := hqb h0 b off e; have e2 := Option.some.inj e2; omega)
          have hQ9 := hQ8.kept2 u9 (fun h0 b off e e2 => by have := hqb h0 b off e; have e2 := Option.some.inj e2; omega)
          have hO8 : OwVg y8 wa.heap.size A2 D := ⟨hO.b.kept u8 (.inr (hO.b.ne_box p14 (by decide))), hO.p.kept u8 (.inr (hO.p.ne_box p14 (by decide))), hO.t.kept u8 (.inr (hO.t.ne_box p14 (by decide))), hO.ne⟩
          have hO9 : OwVg y9 wa.heap.size A2 D := ⟨hO8.b.kept u9 (.inr (hO8.b.ne_box p15 (by decide))), hO8.p.kept u9 (.inr (hO8.p.ne_box p15 (by decide))), hO8.t.kept u9 (.inr (hO8.t.ne_box p15 (by decide))), hO.ne⟩
          have hC8 := hC.kept u8 (.inr (hC.ne_box p14 (by decide)))
          have hC9 := hC8.kept u9 (.inr (hC8.ne_box p15 (by decide)))
          have GR : wa.grownBy y9 none := grown_far (grown_far SS u8 (fun q e => by have e := Option.some.inj e; omega)) u9 (fun q e => by have e := Option.some.inj e; omega)
          exact hQq _ _ _ _ _ _ x2.heap.size x3.heap.size q c A2 xa xc y9 b14 b15 hQ9 hO9 hC9.rd GR
      · go_simp
        have gX := World.grownBy_alloc x2 (.cells #[.bool false, .int .i64 0, .slice none 0 0, .slice none 0 0, .int .i64 0, .slice none 0 0] 29) none
        have p15 := BxS.new x2 29 #[.bool false, .int .i64 0, .slice none 0 0, .slice none 0 0, .int .i64 0, .slice none 0 0]
        have n15 : wa.heap.size ≤ x2.heap.size := SS.size
        have hQ := hQ.keep gX
        have hO := hO.keep gX
        have SS := grown_trans SS gX
        refine hK _ _ (fun _ => SS) ?_
        try simp only [List.getElem_toArray, List.getElem_cons_succ, List.getElem_cons_zero, Act.put, List.setIfInBounds_toArray, List.set_cons_zero, List.set_cons_succ]
        generalize hz3 : x2.alloc (.cells #[.bool false, .int .i64 0, .slice none 0 0, .slice none 0 0, .int .i64 0, .slice none 0 0] 29) = x3 at *
        have sz3 : x2.heap.size + 1 ≤ x3.heap.size := by rw [← hz3]; simp
        clear hz3 gX
        refine wpAnyZ_twoB 5 6 rfl rfl (by kernel_rfl) (fun K hK => ?_) (fun K hK => ?_)
        · go_simp
          go_at_call 16
          refine (kC _ (hX.keep SS)).mono ?_
          rintro e x4 ⟨xa, xc, rfl, hC, gX⟩
          dsimp only
          have hQ := hQ.keep gX
          have hO := hO.keep gX
          have p15 := p15.keep gX (by simp)
          have SS := grown_trans SS gX
          refine hK _ _ (fun _ => SS) ?_
          try simp only [List.getElem_toArray, List.getElem_cons_succ, List.getElem_cons_zero, Act.put, List.setIfInBounds_toArray, List.set_cons_zero, List.set_cons_succ]
          have sz4 := gX.size
          clear gX
          refine wpAnyZ_oneB 6 rfl (by kernel_rfl) (fun K hK => ?_)
          go_simp
          have gX := World.grownBy_alloc x4 (.cells #[.slice none 0 0, .int .i64 0, .int .i64 0, .int .i64 0, .string ⟨#[]⟩] 24) none
          have p14 := BxS.new x4 24 #[.slice none 0 0, .int .i64 0, .int .i64 0, .int .i64 0, .string ⟨#[]⟩]
          have n14 : wa.heap.size ≤ x4.heap.size := SS.size
          have hQ := hQ.keep gX
          have hO := hO.keep gX
          have hC := hC.keep gX
          have p15 := p15.keep gX (by simp)
          have SS := grown_trans SS gX
          refine hK _ _ (fun _ => SS) ?_
          try simp only [List.getElem_toArray, List.getElem_cons_succ, List.getElem_cons_zero, Act.put, List.setIfInBounds_toArray, List.set_cons_zero, List.set_cons_succ]
          generalize hz5 : x4.alloc (.cells #[.slice none 0 0, .int .i64 0, .int .i64 0, .int .i64 0, .string ⟨#[]⟩] 24) = x5 at *
          have sz5 : x4.heap.size + 1 ≤ x5.heap.size := by rw [← hz5]; simp
          clear hz5 gX
          have u4 := p14.lt
          have u5 := p15.lt
          have ne45 : x4.heap.size ≠ x2.heap.size := by omega
          refine wpAnyZ_oneB 8 rfl (by kernel_rfl) (fun K hK => ?_)
          refine step_stX _ rfl 24 (.tmp 14) (.tmp 36) rfl x4.heap.size _ _ rfl rfl p14 i5 rfl (by simp [Value.oneCell']) ?_
          intro y8 b14 u8
          refine hK _ _ (fun h => absurd (by decide) h) ?_
          try simp only [List.getElem_toArray, List.getElem_cons_succ, List.getElem_cons_zero, Act.put, List.setIfInBounds_toArray, List.set_cons_zero, List.set_cons_succ]
          have p15 := p15.keep u8 (fun e => ne45 (Option.some.inj e).symm)
          refine wpAnyZ_oneB 9 rfl (by kernel_rfl) (fun K hK => ?_)
          refine step_stX _ rfl 29 (.tmp 15) (.tmp 38) rfl x2.heap.size _ _ rfl rfl p15 i6 rfl (by simp [Value.oneCell']) ?_
          intro y9 b15 u9
          refine hK _ _ (fun h => absurd (by decide) h) ?_
          try simp only [List.getElem_toArray, List.getElem_cons_succ, List.getElem_cons_zero, Act.put, List.setIfInBounds_toArray, List.set_cons_zero, List.set_cons_succ]
          refine wpAnyZ_takeF 10 (.slice xa vn xc) rfl (by kernel_rfl) (fun _ _ _ h => hP _ _ _ _ (by rfl) h) rfl (by intro wz; go_simp) ?_
          try simp only [List.getElem_toArray, List.getElem_cons_succ, List.getElem_cons_zero, Act.put, List.setIfInBounds_toArray, List.set_cons_zero, List.set_cons_succ]
          refine wpAnyZ_doneB (by kernel_rfl) ?_ _
          have b14 := b14.keep u9 (fun e => ne45 (Option.some.inj e))
          have hQ8 := hQ.kept2 u8 (fun h0 b off e e2 => by have := hqb h0 b off e; have e2 := Option.some.inj e2; omega)
          have hQ9 := hQ8.kept2 u9 (fun h0 b off e e2 => by have := hqb h0 b off e; have e2 := Option.some.inj e2; omega)
          have hO8 : OwVg y8 wa.heap.size A2 D := ⟨hO.b.kept u8 (.inr (hO.b.ne_box p14 (by decide))), hO.p.kept u8 (.inr (hO.p.ne_box p14 (by decide))), hO.t.kept u8 (.inr (hO.t.ne_box p14 (by decide))), hO.ne⟩
          have hO9 : OwVg y9 wa.heap.size A2 D := ⟨hO8.b.kept u9 (.inr (hO8.b.ne_box p15 (by decide))), hO8.p.kept u9 (.inr (hO8.p.ne_box p15 (by decide))), hO8.t.kept u9 (.inr (hO8.t.ne_box p15 (by decide))), hO.ne⟩
          have hC8 := hC.kept u8 (.inr (hC.ne_box p14 (by decide)))
          have hC9 := hC8.kept u9 (.inr (hC8.ne_box p15 (by decide)))
          have GR : wa.grownBy y9 none := grown_far (grown_far SS u8 (fun q e => by have e := Option.some.inj e; omega)) u9 (fun q e => by have e := Option.some.inj e; omega)
          exact hQq _ _ _ _ _ _ x4.heap.size x2.heap.size q c A2 xa xc y9 b14 b15 hQ9 hO9 hC9.rd GR
        · go_simp
          have gX := World.grownBy_alloc x3 (.cells #[.slice none 0 0, .int .i64 0, .int .i64 0, .int .i64 0, .string ⟨#[]⟩] 24) none
          have p14 := BxS.new x3 24 #[.slice none 0 0, .int .i64 0, .int .i64 0, .int .i64 0, .string ⟨#[]⟩]
          have n14 : wa.heap.size ≤ x3.heap.size := SS.size
          have hQ := hQ.keep gX
          have hO := hO.keep gX
          have p15 := p15.keep gX (by simp)
          have SS := grown_trans SS gX
          refine hK _ _ (fun _ => SS) ?_
          try simp only [List.getElem_toArray, List.getElem_cons_succ, List.getElem_cons_zero, Act.put, List.setIfInBounds_toArray, List.set_cons_zero, List.set_cons_succ]
          generalize hz4 : x3.alloc (.cells #[.slice none 0 0, .int .i64 0, .int .i64 0, .int .i64 0, .string ⟨#[]⟩] 24) = x4 at *
          have sz4 : x3.heap.size + 1 ≤ x4.heap.size := by rw [← hz4]; simp
          clear hz4 gX
          refine wpAnyZ_oneB 5 rfl (by kernel_rfl) (fun K hK => ?_)
          go_simp
          go_at_call 16
          refine (kC _ (hX.keep SS)).mono ?_
          rintro e x5 ⟨xa, xc, rfl, hC, gX⟩
          dsimp only
          have hQ := hQ.keep gX
          have hO := hO.keep gX
          have p14 := p14.keep gX (by simp)
          have p15 := p15.keep gX (by simp)
          have SS := grown_trans SS gX
          refine hK _ _ (fun _ => SS) ?_
          try simp only [List.getElem_toArray, List.getElem_cons_succ, List.getElem_cons_zero, Act.put, List.setIfInBounds_toArray, List.set_cons_zero, List.set_cons_succ]
          have sz5 := gX.size
          clear gX
          have u4 := p14.lt
          have u5 := p15.lt
          have ne45 : x3.heap.size ≠ x2.heap.size := by omega
          refine wpAnyZ_oneB 8 rfl (by kernel_rfl) (fun K hK => ?_)
          refine step_stX _ rfl 24 (.tmp 14) (.tmp 36) rfl x3.heap.size _ _ rfl rfl p14 i5 rfl (by simp [Value.oneCell']) ?_
          intro y8 b14 u8
          refine hK _ _ (fun h => absurd (by decide) h) ?_
          try simp only [List.getElem_toArray, List.getElem_cons_succ, List.getElem_cons_zero, Act.put, List.setIfInBounds_toArray, List.set_cons_zero, List.set_cons_succ]
          have p15 := p15.keep u8 (fun e => ne45 (Option.some.inj e).symm)
          refine wpAnyZ_oneB 9 rfl (by kernel_rfl) (fun K hK => ?_)
          refine step_stX _ rfl 29 (.tmp 15) (.tmp 38) rfl x2.heap.size _ _ rfl rfl p15 i6 rfl (by simp [Value.oneCell']) ?_
          intro y9 b15 u9
          refine hK _ _ (fun h => absurd (by decide) h) ?_
          try simp only [List.getElem_toArray, List.getElem_cons_succ, List.getElem_cons_zero, Act.put, List.setIfInBounds_toArray, List.set_cons_zero, List.set_cons_succ]
          refine wpAnyZ_takeF 10 (.slice xa vn xc) rfl (by kernel_rfl) (fun _ _ _ h => hP _ _ _ _ (by rfl) h) rfl (by intro wz; go_simp) ?_
          try simp only [List.getElem_toArray, List.getElem_cons_succ, List.getElem_cons_zero, Act.put, List.setIfInBounds_toArray, List.set_cons_zero, List.set_cons_succ]
          refine wpAnyZ_doneB (by kernel_rfl) ?_ _
          have b14 := b14.keep u9 (fun e => ne45 (Option.some.inj e))
          have hQ8 := hQ.kept2 u8 (fun h0 b off e e2 => by have := hqb h0 b off e; have e2 := Option.some.inj e2; omega)
          have hQ9 := hQ8.kept2 u9 (fun h0 b off e e2 => by have := hqb h0 b off e; have e2 := Option.some.inj e2; omega)
          have hO8 : OwVg y8 wa.heap.size A2 D := ⟨hO.b.kept u8 (.inr (hO.b.ne_box p14 (by decide))), hO.p.kept u8 (.inr (hO.p.ne_box p14 (by decide))), hO.t.kept u8 (.inr (hO.t.ne_box p14 (by decide))), hO.ne⟩
          have hO9 : OwVg y9 wa.heap.size A2 D := ⟨hO8.b.kept u9 (.inr (hO8.b.ne_box p15 (by decide))), hO8.p.kept u9 (.inr (hO8.p.ne_box p15 (by decide))), hO8.t.kept u9 (.inr (hO8.t.ne_box p15 (by decide))), hO.ne⟩
          have hC8 := hC.kept u8 (.inr (hC.ne_box p14 (by decide)))
          have hC9 := hC8.kept u9 (.inr (hC8.ne_box p15 (by decide)))
          have GR : wa.grownBy y9 none := grown_far (grown_far SS u8 (fun q e => by have e := Option.some.inj e; omega)) u9 (fun q e => by have e := Option.some.inj e; omega)
          exact hQq _ _ _ _ _ _ x3.heap.size x2.heap.size q c A2 xa xc y9 b14 b15 hQ9 hO9 hC9.rd GR
    · go_simp
      have gX := World.grownBy_alloc x1 (.cells #[.slice none 0 0, .int .i64 0, .int .i64 0, .int .i64 0, .string ⟨#[]⟩] 24) none
      have p14 := BxS.new x1 24 #[.slice none 0 0, .int .i64 0, .int .i64 0, .int .i64 0, .string ⟨#[]⟩]
      have n14 : wa.heap.size ≤ x1.heap.size := SS.size
      have hQ := hQ.keep gX
      have SS := grown_trans SS gX
      refine hK _ _ (fun _ => SS) ?_
      try simp only [List.getElem_toArray, List.getElem_cons_succ, List.getElem_cons_zero, Act.put, List.setIfInBounds_toArray, List.set_cons_zero, List.set_cons_succ]
      generalize hz2 : x1.alloc (.cells #[.slice none 0 0, .int .i64 0, .int .i64 0, .int .i64 0, .string ⟨#[]⟩] 24) = x2 at *
      have sz2 : x1.heap.size + 1 ≤ x2.heap.size := by rw [← hz2]; simp
      clear hz2 gX
      refine wpAnyZ_twoB 3 7 rfl rfl (by kernel_rfl) (fun K hK => ?_) (fun K hK => ?_)
      · go_simp
        go_at_call 15
        refine (kV _ (hV.keep SS)).mono ?_
        rintro e x3 ⟨A2, rfl, hO0, gX⟩
        dsimp only
        have sz0 := SS.size
        have hO : OwVg _ wa.heap.size A2 D := ⟨hO0.b.low sz0, hO0.p.low sz0, hO0.t.low sz0, hO0.ne⟩
        clear hO0 sz0
        have hQ := hQ.keep gX
        have p14 := p14.keep gX (by simp)
        have SS := grown_trans SS gX
        refine hK _ _ (fun _ => SS) ?_
        try simp only [List.getElem_toArray, List.getElem_cons_succ, List.getElem_cons_zero, Act.put, List.setIfInBounds_toArray, List.set_cons_zero, List.set_cons_succ]
        have sz3 := gX.size
        clear gX
        refine wpAnyZ_twoB 5 7 rfl rfl (by kernel_rfl) (fun K hK => ?_) (fun K hK => ?_)
        · go_simp
          go_at_call 16
          refine (kC _ (hX.keep SS)).mono ?_
          rintro e x4 ⟨xa, xc, rfl, hC, gX⟩
          dsimp only
          have hQ := hQ.keep gX
          have hO := hO.keep gX
          have p14 := p14.keep gX (by simp)
          have SS := grown_trans SS gX
          refine hK _ _ (fun _ => SS) ?_
          try simp only [List.getElem_toArray, List.getElem_cons_succ, List.getElem_cons_zero, Act.put, List.setIfInBounds_toArray, List.set_cons_zero, List.set_cons_succ]
          have sz4 := gX.size
          clear gX
          refine wpAnyZ_oneB 7 rfl (by kernel_rfl) (fun K hK => ?_)
          go_simp
          have gX := World.grownBy_alloc x4 (.cells #[.bool false, .int .i64 0, .slice none 0 0, .slice none 0 0, .int .i64 0, .slice none 0 0] 29) none
          have p15 := BxS.new x4 29 #[.bool false, .int .i64 0, .slice none 0 0, .slice none 0 0, .int .i64 0, .slice none 0 0]
          have n15 : wa.heap.size ≤ x4.heap.size := SS.size
          have hQ := hQ.keep gX
          have hO := hO.keep gX
          have hC := hC.keep gX
          have p14 := p14.keep gX (by simp)
          have SS := grown_trans SS gX
          refine hK _ _ (fun _ => SS) ?_
          try simp only [List.getElem_toArray, List.getElem_cons_succ, List.getElem_cons_zero, Act.put, List.setIfInBounds_toArray, List.set_cons_zero, List.set_cons_succ]
          generalize hz5 : x4.alloc (.cells #[.bool false, .int .i64 0, .slice none 0 0, .slice none 0 0, .int .i64 0, .slice none 0 0] 29) = x5 at *
          have sz5 : x4.heap.size + 1 ≤ x5.heap.size := by rw [← hz5]; simp
          clear hz5 gX
          have u4 := p14.lt
          have u5 := p15.lt
          have ne45 : x1.heap.size ≠ x4.heap.size := by omega
          refine wpAnyZ_oneB 8 rfl (by kernel_rfl) (fun K hK => ?_)
          refine step_stX _ rfl 24 (.tmp 14) (.tmp 36) rfl x1.heap.size _ _ rfl rfl p14 i5 rfl (by simp [Value.oneCell']) ?_
          intro y8 b14 u8
          refine hK _ _ (fun h => absurd (by decide) h) ?_
          try simp only [List.getElem_toArray, List.getElem_cons_succ, List.getElem_cons_zero, Act.put, List.setIfInBounds_toArray, List.set_cons_zero, List.set_cons_succ]
          have p15 := p15.keep u8 (fun e => ne45 (Option.some.inj e).symm)
          refine wpAnyZ_oneB 9 rfl (by kernel_rfl) (fun K hK => ?_)
          refine step_stX _ rfl 29 (.tmp 15) (.tmp 38) rfl x4.heap.size _ _ rfl rfl p15 i6 rfl (by simp [Value.oneCell']) ?_
          intro y9 b15 u9
          refine hK _ _ (fun h => absurd (by decide) h) ?_
          try simp only [List.getElem_toArray, List.getElem_cons_succ, List.getElem_cons_zero, Act.put, List.setIfInBounds_toArray, List.set_cons_zero, List.set_cons_succ]
          refine wpAnyZ_takeF 10 (.slice xa vn xc) rfl (by kernel_rfl) (fun _ _ _ h => hP _ _ _ _ (by rfl) h) rfl (by intro wz; go_simp) ?_
          try simp only [List.getElem_toArray, List.getElem_cons_succ, List.getElem_cons_zero, Act.put, List.setIfInBounds_toArray, List.set_cons_zero, List.set_cons_succ]
          refine wpAnyZ_doneB (by kernel_rfl) ?_ _
          have b14 := b14.keep u9 (fun e => ne45 (Option.some.inj e))
          have hQ8 := hQ.kept2 u8 (fun h0 b off e e2 => by have := hqb h0 b off e; have e2 := Option.some.inj e2; omega)
          have hQ9 := hQ8.kept2 u9 (fun h0 b off e e2 => by have := hqb h0 b off e; have e2 := Option.some.inj e2; omega)
          have hO8 : OwVg y8 wa.heap.size A2 D := ⟨hO.b.kept u8 (.inr (hO.b.ne_box p14 (by decide))), hO.p.kept u8 (.inr (hO.p.ne_box p14 (by decide))), hO.t.kept u8 (.inr (hO.t.ne_box p14 (by decide))), hO.ne⟩
          have hO9 : OwVg y9 wa.heap.size A2 D := ⟨hO8.b.kept u9 (.inr (hO8.b.ne_box p15 (by decide))), hO8.p.kept u9 (.inr (hO8.p.ne_box p15 (by decide))), hO8.t.kept u9 (.inr (hO8.t.ne_box p15 (by decide))), hO.ne⟩
          have hC8 := hC.kept u8 (.inr (hC.ne_box p14 (by decide)))
          have hC9 := hC8.kept u9 (.inr (hC8.ne_box p15 (by decide)))
          have GR : wa.grownBy y9 none := grown_far (grown_far SS u8 (fun q e => by have e := Option.some.inj e; omega)) u9 (fun q e => by have e := Option.some.inj e; omega)
          exact hQq _ _ _ _ _ _ x1.heap.size x4.heap.size q c A2 xa xc y9 b14 b15 hQ9 hO9 hC9.rd GR
        · go_simp
          have gX := World.grownBy_alloc x3 (.cells #[.bool false, .int .i64 0, .slice none 0 0, .slice none 0 0, .int .i64 0, .slice none 0 0] 29) none
          have p15 := BxS.new x3 29 #[.bool false, .int .i64 0, .slice none 0 0, .slice none 0 0, .int .i64 0, .slice none 0 0]
          have n15 : wa.heap.size ≤ x3.heap.size := SS.size
          have hQ := hQ.keep gX
          have hO := hO.keep gX
          have p14 := p14.keep gX (by simp)
          have SS := grown_trans SS gX
          refine hK _ _ (fun _ => SS) ?_
          try simp only [List.getElem_toArray, List.getElem_cons_succ, List.getElem_cons_zero, Act.put, List.setIfInBounds_toArray, List.set_cons_zero, List.set_cons_succ]
          generalize hz4 : x3.alloc (.cells #[.bool false, .int .i64 0, .slice none 0 0, .slice none 0 0, .int .i64 0, .slice none 0 0] 29) = x4 at *
          have sz4 : x3.heap.size + 1 ≤ x4.heap.size := by rw [← hz4]; simp
          clear hz4 gX
          refine wpAnyZ_oneB 5 rfl (by kernel_rfl) (fun K hK => ?_)
          go_simp
          go_at_call 16
          refine (kC _ (hX.keep SS)).mono ?_
          rintro e x5 ⟨xa, xc, rfl, hC, gX⟩
          dsimp only
          have hQ := hQ.keep gX
          have hO := hO.keep gX
          have p14 := p14.keep gX (by simp)
          have p15 := p15.keep gX (by simp)
          have SS := grown_trans SS gX
          refine hK _ _ (fun _ => SS) ?_
          try simp only [List.getElem_toArray, List.getElem_cons_succ, List.getElem_cons_zero, Act.put, List.setIfInBounds_toArray, List.set_cons_zero, List.set_cons_succ]
          have sz5 := gX.size
          clear gX
          have u4 := p14.lt
          have u5 := p15.lt
          have ne45 : x1.heap.size ≠ x3.heap.size := by omega
          refine wpAnyZ_oneB 8 rfl (by kernel_rfl) (fun K hK => ?_)
          refine step_stX _ rfl 24 (.tmp 14) (.tmp 36) rfl x1.heap.size _ _ rfl rfl p14 i5 rfl (by simp [Value.oneCell']) ?_
          intro y8 b14 u8
          refine hK _ _ (fun h => absurd (by decide) h) ?_
          try simp only [List.getElem_toArray, List.getElem_cons_succ, List.getElem_cons_zero, Act.put, List.setIfInBounds_toArray, List.set_cons_zero, List.set_cons_succ]
          have p15 := p15.keep u8 (fun e => ne45 (Option.some.inj e).symm)
          refine wpAnyZ_oneB 9 rfl (by kernel_rfl) (fun K hK => ?_)
          refine step_stX _ rfl 29 (.tmp 15) (.tmp 38) rfl x3.heap.size _ _ rfl rfl p15 i6 rfl (by simp [Value.oneCell']) ?_
          intro y9 b15 u9
          refine hK _ _ (fun h => absurd (by decide) h) ?_
          try simp only [List.getElem_toArray, List.getElem_cons_succ, List.getElem_cons_zero, Act.put, List.setIfInBounds_toArray, List.set_cons_zero, List.set_cons_succ]
          refine wpAnyZ_takeF 10 (.slice xa vn xc) rfl (by kernel_rfl) (fun _ _ _ h => hP _ _ _ _ (by rfl) h) rfl (by intro wz; go_simp) ?_
          try simp only [List.getElem_toArray, List.getElem_cons_succ, List.getElem_cons_zero, Act.put, List.setIfInBounds_toArray, List.set_cons_zero, List.set_cons_succ]
          refine wpAnyZ_doneB (by kernel_rfl) ?_ _
          have b14 := b14.keep u9 (fun e => ne45 (Option.some.inj e))
          have hQ8 := hQ.kept2 u8 (fun h0 b off e e2 => by have := hqb h0 b off e; have e2 := Option.some.inj e2; omega)
          have hQ9 := hQ8.kept2 u9 (fun h0 b off e e2 => by have := hqb h0 b off e; have e2 := Option.some.inj e2; omega)
          have hO8 : OwVg y8 wa.heap.size A2 D := ⟨hO.b.kept u8 (.inr (hO.b.ne_box p14 (by decide))), hO.p.kept u8 (.inr (hO.p.ne_box p14 (by decide))), hO.t.kept u8 (.inr (hO.t.ne_box p14 (by decide))), hO.ne⟩
          have hO9 : OwVg y9 wa.heap.size A2 D := ⟨hO8.b.kept u9 (.inr (hO8.b.ne_box p15 (by decide))), hO8.p.kept u9 (.inr (hO8.p.ne_box p15 (by decide))), hO8.t.kept u9 (.inr (hO8.t.ne_box p15 (by decide))), hO.ne⟩
          have hC8 := hC.kept u8 (.inr (hC.ne_box p14 (by decide)))
          have hC9 := hC8.kept u9 (.inr (hC8.ne_box p15 (by decide)))
          have GR : wa.grownBy y9 none := grown_far (grown_far SS u8 (fun q e => by have e := Option.some.inj e; omega)) u9 (fun q e => by have e := Option.some.inj e; omega)
          exact hQq _ _ _ _ _ _ x1.heap.size x3.heap.size q c A2 xa xc y9 b14 b15 hQ9 hO9 hC9.rd GR
      · go_simp
        have gX := World.grownBy_alloc x2 (.cells #[.bool false, .int .i64 0, .slice none 0 0, .slice none 0 0, .int .i64 0, .slice none 0 0] 29) none
        have p15 := BxS.new x2 29 #[.bool false, .int .i64 0, .slice none 0 0, .slice none 0 0, .int .i64 0, .slice none 0 0]
        have n15 : wa.heap.size ≤ x2.heap.size := SS.size
        have hQ := hQ.keep gX
        have p14 := p14.keep gX (by simp)
        have SS := grown_trans SS gX
        refine hK _ _ (fun _ => SS) ?_
        try simp only [List.getElem_toArray, List.getElem_cons_succ, List.getElem_cons_zero, Act.put, List.setIfInBounds_toArray, List.set_cons_zero, List.set_cons_succ]
        generalize hz3 : x2.alloc (.cells #[.bool false, .int .i64 0, .slice none 0 0, .slice none 0 0, .int .i64 0, .slice none 0 0] 29) = x3 at *
        have sz3 : x2.heap.size + 1 ≤ x3.heap.size := by rw [← hz3]; simp
        clear hz3 gX
        refine wpAnyZ_oneB 3 rfl (by kernel_rfl) (fun K hK => ?_)
        go_simp
        go_at_call 15
        refine (kV _ (hV.keep SS)).mono ?_
        rintro e x4 ⟨A2, rfl, hO0, gX⟩
        dsimp only
        have sz0 := SS.size
        have hO : OwVg _ wa.heap.size A2 D := ⟨hO0.b.low sz0, hO0.p.low sz0, hO0.t.low sz0, hO0.ne⟩
        clear hO0 sz0
        have hQ := hQ.keep gX
        have p14 := p14.keep gX (by simp)
        have p15 := p15.keep gX (by simp)
        have SS := grown_trans SS gX
        refine hK _ _ (fun _ => SS) ?_
        try simp only [List.getElem_toArray, List.getElem_cons_succ, List.getElem_cons_zero, Act.put, List.setIfInBounds_toArray, List.set_cons_zero, List.set_cons_succ]
        have sz4 := gX.size
        clear gX
        refine wpAnyZ_oneB 5 rfl (by kernel_rfl) (fun K hK => ?_)
        go_simp
        go_at_call 16
        refine (kC _ (hX.keep SS)).mono ?_
        rintro e x5 ⟨xa, xc, rfl, hC, gX⟩
        dsimp only
        have hQ := hQ.keep gX
        have hO := hO.keep gX
        have p14 := p14.keep gX (by simp)
        have p15 := p15.keep gX (by simp)
        have SS := grown_trans SS gX
        refine hK _ _ (fun _ => SS) ?_
        try simp only [List.getElem_toArray, List.getElem_cons_succ, List.getElem_cons_zero, Act.put, List.setIfInBounds_toArray, List.set_cons_zero, List.set_cons_succ]
        have sz5 := gX.size
        clear gX
        have u4 := p14.lt
        have u5 := p15.lt
        have ne45 : x1.heap.size ≠ x2.heap.size := by omega
        refine wpAnyZ_oneB 8 rfl (by kernel_rfl) (fun K hK => ?_)
        refine step_stX _ rfl 24 (.tmp 14) (.tmp 36) rfl x1.heap.size _ _ rfl rfl p14 i5 rfl (by simp [Value.oneCell']) ?_
        intro y8 b14 u8
        refine hK _ _ (fun h => absurd (by decide) h) ?_
        try simp only [List.getElem_toArray, List.getElem_cons_succ, List.getElem_cons_zero, Act.put, List.setIfInBounds_toArray, List.set_cons_zero, List.set_cons_succ]
        have p15 := p15.keep u8 (fun e => ne45 (Option.some.inj e).symm)
        refine wpAnyZ_oneB 9 rfl (by kernel_rfl) (fun K hK => ?_)
        refine step_stX _ rfl 29 (.tmp 15) (.tmp 38) rfl x2.heap.size _ _ rfl rfl p15 i6 rfl (by simp [Value.oneCell']) ?_
        intro y9 b15 u9
        refine hK _ _ (fun h => absurd (by decide) h) ?_
        try simp only [List.getElem_toArray, List.getElem_cons_succ, List.getElem_cons_zero, Act.put, List.setIfInBounds_toArray, List.set_cons_zero, List.set_cons_succ]
        refine wpAnyZ_takeF 10 (.slice xa vn xc) rfl (by kernel_rfl) (fun _ _ _ h => hP _ _ _ _ (by rfl) h) rfl (by intro wz; go_simp) ?_
        try simp only [List.getElem_toArray, List.getElem_cons_succ, List.getElem_cons_zero, Act.put, List.setIfInBounds_toArray, List.set_cons_zero, List.set_cons_succ]
        refine wpAnyZ_doneB (by kernel_rfl) ?_ _
        have b14 := b14.keep u9 (fun e => ne45 (Option.some.inj e))
        have hQ8 := hQ.kept2 u8 (fun h0 b off e e2 => by have := hqb h0 b off e; have e2 := Option.some.inj e2; omega)
        have hQ9 := hQ8.kept2 u9 (fun h0 b off e e2 => by have := hqb h0 b off e; have e2 := Option.some.inj e2; omega)
        have hO8 : OwVg y8 wa.heap.size A2 D := ⟨hO.b.kept u8 (.inr (hO.b.ne_box p14 (by decide))), hO.p.kept u8 (.inr (hO.p.ne_box p14 (by decide))), hO.t.kept u8 (.inr (hO.t.ne_box p14 (by decide))), hO.ne⟩
        have hO9 : OwVg y9 wa.heap.size A2 D := ⟨hO8.b.kept u9 (.inr (hO8.b.ne_box p15 (by decide))), hO8.p.kept u9 (.inr (hO8.p.ne_box p15 (by decide))), hO8.t.kept u9 (.inr (hO8.t.ne_box p15 (by decide))), hO.ne⟩
        have hC8 := hC.kept u8 (.inr (hC.ne_box p14 (by decide)))
        have hC9 := hC8.kept u9 (.inr (hC8.ne_box p15 (by decide)))
        have GR : wa.grownBy y9 none := grown_far (grown_far SS u8 (fun q e => by have e := Option.some.inj e; omega)) u9 (fun q e => by have e := Option.some.inj e; omega)
        exact hQq _ _ _ _ _ _ x1.heap.size x2.heap.size q c A2 xa xc y9 b14 b15 hQ9 hO9 hC9.rd GR
    · go_simp
      have gX := World.grownBy_alloc x1 (.cells #[.bool false, .int .i64 0, .slice none 0 0, .slice none 0 0, .int .i64 0, .slice none 0 0] 29) none
      have p15 := BxS.new x1 29 #[.bool false, .int .i64 0, .slice none 0 0, .slice none 0 0, .int .i64 0, .slice none 0 0]
      have n15 : wa.heap.size ≤ x1.heap.size := SS.size
      have hQ := hQ.keep gX
      have SS := grown_trans SS gX
      refine hK _ _ (fun _ => SS) ?_
      try simp only [List.getElem_toArray, List.getElem_cons_succ, List.getElem_cons_zero, Act.put, List.setIfInBounds_toArray, List.set_cons_zero, List.set_cons_succ]
      generalize hz2 : x1.alloc (.cells #[.bool false, .int .i64 0, .slice none 0 0, .slice none 0 0, .int .i64 0, .slice none 0 0] 29) = x2 at *
      have sz2 : x1.heap.size + 1 ≤ x2.heap.size := by rw [← hz2]; simp
      clear hz2 gX
      refine wpAnyZ_twoB 3 6 rfl rfl (by kernel_rfl) (fun K hK => ?_) (fun K hK => ?_)
      · go_simp
        go_at_call 15
        refine (kV _ (hV.keep SS)).mono ?_
        rintro e x3 ⟨A2, rfl, hO0, gX⟩
        dsimp only
        have sz0 := SS.size
        have hO : OwVg _ wa.heap.size A2 D := ⟨hO0.b.low sz0, hO0.p.low sz0, hO0.t.low sz0, hO0.ne⟩
        clear hO0 sz0
        have hQ := hQ.keep gX
        have p15 := p15.keep gX (by simp)
        have SS := grown_trans SS gX
        refine hK _ _ (fun _ => SS) ?_
        try simp only [List.getElem_toArray, List.getElem_cons_succ, List.getElem_cons_zero, Act.put, List.setIfInBounds_toArray, List.set_cons_zero, List.set_cons_succ]
        have sz3 := gX.size
        clear gX
        refine wpAnyZ_twoB 5 6 rfl rfl (by kernel_rfl) (fun K hK => ?_) (fun K hK => ?_)
        · go_simp
          go_at_call 16
          refine (kC _ (hX.keep SS)).mono ?_
          rintro e x4 ⟨xa, xc, rfl, hC, gX⟩
          dsimp only
          have hQ := hQ.keep gX
          have hO := hO.keep gX
          have p15 := p15.keep gX (by simp)
          have SS := grown_trans SS gX
          refine hK _ _ (fun _ => SS) ?_
          try simp only [List.getElem_toArray, List.getElem_cons_succ, List.getElem_cons_zero, Act.put, List.setIfInBounds_toArray, List.set_cons_zero, List.set_cons_succ]
          have sz4 := gX.size
          clear gX
          refine wpAnyZ_oneB 6 rfl (by kernel_rfl) (fun K hK => ?_)
          go_simp
          have gX := World.grownBy_alloc x4 (.cells #[.slice none 0 0, .int .i64 0, .int .i64 0, .int .i64 0, .string ⟨#[]⟩] 24) none
          have p14 := BxS.new x4 24 #[.slice none 0 0, .int .i64 0, .int .i64 0, .int .i64 0, .string ⟨#[]⟩]
          have n14 : wa.heap.size ≤ x4.heap.size := SS.size
          have hQ := hQ.keep gX
          have hO := hO.keep gX
          have hC := hC.keep gX
          have p15 := p15.keep gX (by simp)
          have SS := grown_trans SS gX
          refine hK _ _ (fun _ => SS) ?_
          try simp only [List.getElem_toArray, List.getElem_cons_succ, List.getElem_cons_zero, Act.put, List.setIfInBounds_toArray, List.set_cons_zero, List.set_cons_succ]
          generalize hz5 : x4.alloc (.cells #[.slice none 0 0, .int .i64 0, .int .i64 0, .int .i64 0, .string ⟨#[]⟩] 24) = x5 at *
          have sz5 : x4.heap.size + 1 ≤ x5.heap.size := by rw [← hz5]; simp
          clear hz5 gX
          have u4 := p14.lt
          have u5 := p15.lt
          have ne45 : x4.heap.size ≠ x1.heap.size := by omega
          refine wpAnyZ_oneB 8 rfl (by kernel_rfl) (fun K hK => ?_)
          refine step_stX _ rfl 24 (.tmp 14) (.tmp 36) rfl x4.heap.size _ _ rfl rfl p14 i5 rfl (by simp [Value.oneCell']) ?_
          intro y8 b14 u8
          refine hK _ _ (fun h => absurd (by decide) h) ?_
          try simp only [List.getElem_toArray, List.getElem_cons_succ, List.getElem_cons_zero, Act.put, List.setIfInBounds_toArray, List.set_cons_zero, List.set_cons_succ]
          have p15 := p15.keep u8 (fun e => ne45 (Option.some.inj e).symm)
          refine wpAnyZ_oneB 9 rfl (by kernel_rfl) (fun K hK => ?_)
          refine step_stX _ rfl 29 (.tmp 15) (.tmp 38) rfl x1.heap.size _ _ rfl rfl p15 i6 rfl (by simp [Value.oneCell']) ?_
          intro y9 b15 u9
          refine hK _ _ (fun h => absurd (by decide) h) ?_
          try simp only [List.getElem_toArray, List.getElem_cons_succ, List.getElem_cons_zero, Act.put, List.setIfInBounds_toArray, List.set_cons_zero, List.set_cons_succ]
          refine wpAnyZ_takeF 10 (.slice xa vn xc) rfl (by kernel_rfl) (fun _ _ _ h => hP _ _ _ _ (by rfl) h) rfl (by intro wz; go_simp) ?_
          try simp only [List.getElem_toArray, List.getElem_cons_succ, List.getElem_cons_zero, Act.put, List.setIfInBounds_toArray, List.set_cons_zero, List.set_cons_succ]
          refine wpAnyZ_doneB (by kernel_rfl) ?_ _
          have b14 := b14.keep u9 (fun e => ne45 (Option.some.inj e))
          have hQ8 := hQ.kept2 u8 (fun h0 b off e e2 => by have := hqb h0 b off e; have e2 := Option.some.inj e2; omega)
          have hQ9 := hQ8.kept2 u9 (fun h0 b off e e2 => by have := hqb h0 b off e; have e2 := Option.some.inj e2; omega)
          have hO8 : OwVg y8 wa.heap.size A2 D := ⟨hO.b.kept u8 (.inr (hO.b.ne_box p14 (by decide))), hO.p.kept u8 (.inr (hO.p.ne_box p14 (by decide))), hO.t.kept u8 (.inr (hO.t.ne_box p14 (by decide))), hO.ne⟩
          have hO9 : OwVg y9 wa.heap.size A2 D := ⟨hO8.b.kept u9 (.inr (hO8.b.ne_box p15 (by decide))), hO8.p.kept u9 (.inr (hO8.p.ne_box p15 (by decide))), hO8.t.kept u9 (.inr (hO8.t.ne_box p15 (by decide))), hO.ne⟩
          have hC8 := hC.kept u8 (.inr (hC.ne_box p14 (by decide)))
          have hC9 := hC8.kept u9 (.inr (hC8.ne_box p15 (by decide)))
          have GR : wa.grownBy y9 none := grown_far (grown_far SS u8 (fun q e => by have e := Option.some.inj e; omega)) u9 (fun q e => by have e := Option.some.inj e; omega)
          exact hQq _ _ _ _ _ _ x4.heap.size x1.heap.size q c A2 xa xc y9 b14 b15 hQ9 hO9 hC9.rd GR
        · go_simp
          have gX := World.grownBy_alloc x3 (.cells #[.slice none 0 0, .int .i64 0, .int .i64 0, .int .i64 0, .string ⟨#[]⟩] 24) none
          have p14 := BxS.new x3 24 #[.slice none 0 0, .int .i64 0, .int .i64 0, .int .i64 0, .string ⟨#[]⟩]
          have n14 : wa.heap.size ≤ x3.heap.size := SS.size
          have hQ := hQ.keep gX
          have hO := hO.keep gX
          have p15 := p15.keep gX (by simp)
          have SS := grown_trans SS gX
          refine hK _ _ (fun _ => SS) ?_
          try simp only [List.getElem_toArray, List.getElem_cons_succ, List.getElem_cons_zero, Act.put, List.setIfInBounds_toArray, List.set_cons_zero, List.set_cons_succ]
          generalize hz4 : x3.alloc (.cells #[.slice none 0 0, .int .i64 0, .int .i64 0, .int .i64 0, .string ⟨#[]⟩] 24) = x4 at *
          have sz4 : x3.heap.size + 1 ≤ x4.heap.size := by rw [← hz4]; simp
          clear hz4 gX
          refine wpAnyZ_oneB 5 rfl (by kernel_rfl) (fun K hK => ?_)
          go_simp
          go_at_call 16
          refine (kC _ (hX.keep SS)).mono ?_
          rintro e x5 ⟨xa, xc, rfl, hC, gX⟩
          dsimp only
          have hQ := hQ.keep gX
          have hO := hO.keep gX
          have p14 := p14.keep gX (by simp)
          have p15 := p15.keep gX (by simp)
          have SS := grown_trans SS gX
          refine hK _ _ (fun _ => SS) ?_
          try simp only [List.getElem_toArray, List.getElem_cons_succ, List.getElem_cons_zero, Act.put, List.setIfInBounds_toArray, List.set_cons_zero, List.set_cons_succ]
          have sz5 := gX.size
          clear gX
          have u4 := p14.lt
          have u5 := p15.lt
          have ne45 : x3.heap.size ≠ x1.heap.size := by omega
          refine wpAnyZ_oneB 8 rfl (by kernel_rfl) (fun K hK => ?_)
          refine step_stX _ rfl 24 (.tmp 14) (.tmp 36) rfl x3.heap.size _ _ rfl rfl p14 i5 rfl (by simp [Value.oneCell']) ?_
          intro y8 b14 u8
          refine hK _ _ (fun h => absurd (by decide) h) ?_
          try simp only [List.getElem_toArray, List.getElem_cons_succ, List.getElem_cons_zero, Act.put, List.setIfInBounds_toArray, List.set_cons_zero, List.set_cons_succ]
          have p15 := p15.keep u8 (fun e => ne45 (Option.some.inj e).symm)
          refine wpAnyZ_oneB 9 rfl (by kernel_rfl) (fun K hK => ?_)
          refine step_stX _ rfl 29 (.tmp 15) (.tmp 38) rfl x1.heap.size _ _ rfl rfl p15 i6 rfl (by simp [Value.oneCell']) ?_
          intro y9 b15 u9
          refine hK _ _ (fun h => absurd (by decide) h) ?_
          try simp only [List.getElem_toArray, List.getElem_cons_succ, List.getElem_cons_zero, Act.put, List.setIfInBounds_toArray, List.set_cons_zero, List.set_cons_succ]
          refine wpAnyZ_takeF 10 (.slice xa vn xc) rfl (by kernel_rfl) (fun _ _ _ h => hP _ _ _ _ (by rfl) h) rfl (by intro wz; go_simp) ?_
          try simp only [List.getElem_toArray, List.getElem_cons_succ, List.getElem_cons_zero, Act.put, List.setIfInBounds_toArray, List.set_cons_zero, List.set_cons_succ]
          refine wpAnyZ_doneB (by kernel_rfl) ?_ _
          have b14 := b14.keep u9 (fun e => ne45 (Option.some.inj e))
          have hQ8 := hQ.kept2 u8 (fun h0 b off e e2 => by have := hqb h0 b off e; have e2 := Option.some.inj e2; omega)
          have hQ9 := hQ8.kept2 u9 (fun h0 b off e e2 => by have := hqb h0 b off e; have e2 := Option.some.inj e2; omega)
          have hO8 : OwVg y8 wa.heap.size A2 D := ⟨hO.b.kept u8 (.inr (hO.b.ne_box p14 (by decide))), hO.p.kept u8 (.inr (hO.p.ne_box p14 (by decide))), hO.t.kept u8 (.inr (hO.t.ne_box p14 (by decide))), hO.ne⟩
          have hO9 : OwVg y9 wa.heap.size A2 D := ⟨hO8.b.kept u9 (.inr (hO8.b.ne_box p15 (by decide))), hO8.p.kept u9 (.inr (hO8.p.ne_box p15 (by decide))), hO8.t.kept u9 (.inr (hO8.t.ne_box p15 (by decide))), hO.ne⟩
          have hC8 := hC.kept u8 (.inr (hC.ne_box p14 (by decide)))
          have hC9 := hC8.kept u9 (.inr (hC8.ne_box p15 (by decide)))
          have GR : wa.grownBy y9 none := grown_far (grown_far SS u8 (fun q e => by have e := Option.some.inj e; omega)) u9 (fun q e => by have e := Option.some.inj e; omega)
          exact hQq _ _ _ _ _ _ x3.heap.size x1.heap.size q c A2 xa xc y9 b14 b15 hQ9 hO9 hC9.rd GR
      · go_simp
        have gX := World.grownBy_alloc x2 (.cells #[.slice none 0 0, .int .i64 0, .int .i64 0, .int .i64 0, .string ⟨#[]⟩] 24) none
        have p14 := BxS.new x2 24 #[.slice none 0 0, .int .i64 0, .int .i64 0, .int .i64 0, .string ⟨#[]⟩]
        have n14 : wa.heap.size ≤ x2.heap.size := SS.size
        have hQ := hQ.keep gX
        have p15 := p15.keep gX (by simp)
        have SS := grown_trans SS gX
        refine hK _ _ (fun _ => SS) ?_
        try simp only [List.getElem_toArray, List.getElem_cons_succ, List.getElem_cons_zero, Act.put, List.setIfInBounds_toArray, List.set_cons_zero, List.set_cons_succ]
        generalize hz3 : x2.alloc (.cells #[.slice none 0 0, .int .i64 0, .int .i64 0, .int .i64 0, .string ⟨#[]⟩] 24) = x3 at *
        have sz3 : x2.heap.size + 1 ≤ x3.heap.size := by rw [← hz3]; simp
        clear hz3 gX
        refine wpAnyZ_oneB 3 rfl (by kernel_rfl) (fun K hK => ?_)
        go_simp
        go_at_call 15
        refine (kV _ (hV.keep SS)).mono ?_
        rintro e x4 ⟨A2, rfl, hO0, gX⟩
        dsimp only
        have sz0 := SS.size
        have hO : OwVg _ wa.heap.size A2 D := ⟨hO0.b.low sz0, hO0.p.low sz0, hO0.t.low sz0, hO0.ne⟩
        clear hO0 sz0
        have hQ := hQ.keep gX
        have p14 := p14.keep gX (by simp)
        have p15 := p15.keep gX (by simp)
        have SS := grown_trans SS gX
        refine hK _ _ (fun _ => SS) ?_
        try simp only [List.getElem_toArray, List.getElem_cons_succ, List.getElem_cons_zero, Act.put, List.setIfInBounds_toArray, List.set_cons_zero, List.set_cons_succ]
        have sz4 := gX.size
        clear gX
        refine wpAnyZ_oneB 5 rfl (by kernel_rfl) (fun K hK => ?_)
        go_simp
        go_at_call 16
        refine (kC _ (hX.keep SS)).mono ?_
        rintro e x5 ⟨xa, xc, rfl, hC, gX⟩
        dsimp only
        have hQ := hQ.keep gX
        have hO := hO.keep gX
        have p14 := p14.keep gX (by simp)
        have p15 := p15.keep gX (by simp)
        have SS := grown_trans SS gX
        refine hK _ _ (fun _ => SS) ?_
        try simp only [List.getElem_toArray, List.getElem_cons_succ, List.getElem_cons_zero, Act.put, List.setIfInBounds_toArray, List.set_cons_zero, List.set_cons_succ]
        have sz5 := gX.size
        clear gX
        have u4 := p14.lt
        have u5 := p15.lt
        have ne45 : x2.heap.size ≠ x1.heap.size := by omega
        refine wpAnyZ_oneB 8 rfl (by kernel_rfl) (fun K hK => ?_)
        refine step_stX _ rfl 24 (.tmp 14) (.tmp 36) rfl x2.heap.size _ _ rfl rfl p14 i5 rfl (by simp [Value.oneCell']) ?_
        intro y8 b14 u8
        refine hK _ _ (fun h => absurd (by decide) h) ?_
        try simp only [List.getElem_toArray, List.getElem_cons_succ, List.getElem_cons_zero, Act.put, List.setIfInBounds_toArray, List.set_cons_zero, List.set_cons_succ]
        have p15 := p15.keep u8 (fun e => ne45 (Option.some.inj e).symm)
        refine wpAnyZ_oneB 9 rfl (by kernel_rfl) (fun K hK => ?_)
        refine step_stX _ rfl 29 (.tmp 15) (.tmp 38) rfl x1.heap.size _ _ rfl rfl p15 i6 rfl (by simp [Value.oneCell']) ?_
        intro y9 b15 u9
        refine hK _ _ (fun h => absurd (by decide) h) ?_
        try simp only [List.getElem_toArray, List.getElem_cons_succ, List.getElem_cons_zero, Act.put, List.setIfInBounds_toArray, List.set_cons_zero, List.set_cons_succ]
        refine wpAnyZ_takeF 10 (.slice xa vn xc) rfl (by kernel_rfl) (fun _ _ _ h => hP _ _ _ _ (by rfl) h) rfl (by intro wz; go_simp) ?_
        try simp only [List.getElem_toArray, List.getElem_cons_succ, List.getElem_cons_zero, Act.put, List.setIfInBounds_toArray, List.set_cons_zero, List.set_cons_succ]
        refine wpAnyZ_doneB (by kernel_rfl) ?_ _
        have b14 := b14.keep u9 (fun e => ne45 (Option.some.inj e))
        have hQ8 := hQ.kept2 u8 (fun h0 b off e e2 => by have := hqb h0 b off e; have e2 := Option.some.inj e2; omega)
        have hQ9 := hQ8.kept2 u9 (fun h0 b off e e2 => by have := hqb h0 b off e; have e2 := Option.some.inj e2; omega)
        have hO8 : OwVg y8 wa.heap.size A2 D := ⟨hO.b.kept u8 (.inr (hO.b.ne_box p14 (by decide))), hO.p.kept u8 (.inr (hO.p.ne_box p14 (by decide))), hO.t.kept u8 (.inr (hO.t.ne_box p14 (by decide))), hO.ne⟩
        have hO9 : OwVg y9 wa.heap.size A2 D := ⟨hO8.b.kept u9 (.inr (hO8.b.ne_box p15 (by decide))), hO8.p.kept u9 (.inr (hO8.p.ne_box p15 (by decide))), hO8.t.kept u9 (.inr (hO8.t.ne_box p15 (by decide))), hO.ne⟩
        have hC8 := hC.kept u8 (.inr (hC.ne_box p14 (by decide)))
        have hC9 := hC8.kept u9 (.inr (hC8.ne_box p15 (by decide)))
        have GR : wa.grownBy y9 none := grown_far (grown_far SS u8 (fun q e => by have e := Option.some.inj e; omega)) u9 (fun q e => by have e := Option.some.inj e; omega)
        exact hQq _ _ _ _ _ _ x2.heap.size x1.heap.size q c A2 xa xc y9 b14 b15 hQ9 hO9 hC9.rd GR
  · go_simp
    have gX := World.grownBy_alloc x0 (.cells #[.slice none 0 0, .int .i64 0, .int .i64 0, .int .i64 0, .string ⟨#[]⟩] 24) none
    have p14 := BxS.new x0 24 #[.slice none 0 0, .int .i64 0, .int .i64 0, .int .i64 0, .string ⟨#[]⟩]
    have n14 : wa.heap.size ≤ x0.heap.size := SS.size
    have SS := grown_trans SS gX
    refine hK _ _ (fun _ => SS) ?_
    try simp only [List.getElem_toArray, List.getElem_cons_succ, List.getElem_cons_zero, Act.put, List.setIfInBounds_toArray, List.set_cons_zero, List.set_cons_succ]
    generalize hz1 : x0.alloc (.cells #[.slice none 0 0, .int .i64 0, .int .i64 0, .int .i64 0, .string ⟨#[]⟩] 24) = x1 at *
    have sz1 : x0.heap.size + 1 ≤ x1.heap.size := by rw [← hz1]; simp
    clear hz1 gX
    refine wpAnyZ_twoB 1 7 rfl rfl (by kernel_rfl) (fun K hK => ?_) (fun K hK => ?_)
    · go_simp
      go_at_call 6
      refine (kG _ (hM.keep SS)).mono ?_
      rintro e x2 ⟨q, c, rfl, hQ, hq, gX⟩
      dsimp only
      have hqb : 0 < G.n → ∀ b off, q = some ⟨b, off, none⟩ → x1.heap.size ≤ b ∧ b < x2.heap.size := fun h0 b off e => ⟨hq b off e, by obtain ⟨b2, o2, e2, hb2, _⟩ := hQ.at' h0; rw [e] at e2; cases e2; exact hb2⟩
      clear hq
      have p14 := p14.keep gX (by simp)
      have SS := grown_trans SS gX
      refine hK _ _ (fun _ => SS) ?_
      try simp only [List.getElem_toArray, List.getElem_cons_succ, List.getElem_cons_zero, Act.put, List.setIfInBounds_toArray, List.set_cons_zero, List.set_cons_succ]
      have sz2 := gX.size
      clear gX
      refine wpAnyZ_twoB 3 7 rfl rfl (by kernel_rfl) (fun K hK => ?_) (fun K hK => ?_)
      · go_simp
        go_at_call 15
        refine (kV _ (hV.keep SS)).mono ?_
        rintro e x3 ⟨A2, rfl, hO0, gX⟩
        dsimp only
        have sz0 := SS.size
        have hO : OwVg _ wa.heap.size A2 D := ⟨hO0.b.low sz0, hO0.p.low sz0, hO0.t.low sz0, hO0.ne⟩
        clear hO0 sz0
        have hQ := hQ.keep gX
        have p14 := p14.keep gX (by simp)
        have SS := grown_trans SS gX
        refine hK _ _ (fun _ => SS) ?_
        try simp only [List.getElem_toArray, List.getElem_cons_succ, List.getElem_cons_zero, Act.put, List.setIfInBounds_toArray, List.set_cons_zero, List.set_cons_succ]
        have sz3 := gX.size
        clear gX
        refine wpAnyZ_twoB 5 7 rfl rfl (by kernel_rfl) (fun K hK => ?_) (fun K hK => ?_)
        · go_simp
          go_at_call 16
          refine (kC _ (hX.keep SS)).mono ?_
          rintro e x4 ⟨xa, xc, rfl, hC, gX⟩
          dsimp only
          have hQ := hQ.keep gX
          have hO := hO.keep gX
          have p14 := p14.keep gX (by simp)
          have SS := grown_trans SS gX
          refine hK _ _ (fun _ => SS) ?_
          try simp only [List.getElem_toArray, List.getElem_cons_succ, List.getElem_cons_zero, Act.put, List.setIfInBounds_toArray, List.set_cons_zero, List.set_cons_succ]
          have sz4 := gX.size
          clear gX
          refine wpAnyZ_oneB 7 rfl (by kernel_rfl) (fun K hK => ?_)
          go_simp
          have gX := World.grownBy_alloc x4 (.cells #[.bool false, .int .i64 0, .slice none 0 0, .slice none 0 0, .int .i64 0, .slice none 0 0] 29) none
          have p15 := BxS.new x4 29 #[.bool false, .int .i64 0, .slice none 0 0, .slice none 0 0, .int .i64 0, .slice none 0 0]
          have n15 : wa.heap.size ≤ x4.heap.size := SS.size
          have hQ := hQ.keep gX
          have hO := hO.keep gX
          have hC := hC.keep gX
          have p14 := p14.keep gX (by simp)
          have SS := grown_trans SS gX
          refine hK _ _ (fun _ => SS) ?_
          try simp only [List.getElem_toArray, List.getElem_cons_succ, List.getElem_cons_zero, Act.put, List.setIfInBounds_toArray, List.set_cons_zero, List.set_cons_succ]
          generalize hz5 : x4.alloc (.cells #[.bool false, .int .i64 0, .slice none 0 0, .slice none 0 0, .int .i64 0, .slice none 0 0] 29) = x5 at *
          have sz5 : x4.heap.size + 1 ≤ x5.heap.size := by rw [← hz5]; simp
          clear hz5 gX
          have u4 := p14.lt
          have u5 := p15.lt
          have ne45 : x0.heap.size ≠ x4.heap.size := by omega
          refine wpAnyZ_oneB 8 rfl (by kernel_rfl) (fun K hK => ?_)
          refine step_stX _ rfl 24 (.tmp 14) (.tmp 36) rfl x0.heap.size _ _ rfl rfl p14 i5 rfl (by simp [Value.oneCell']) ?_
          intro y8 b14 u8
          refine hK _ _ (fun h => absurd (by decide) h) ?_
          try simp only [List.getElem_toArray, List.getElem_cons_succ, List.getElem_cons_zero, Act.put, List.setIfInBounds_toArray, List.set_cons_zero, List.set_cons_succ]
          have p15 := p15.keep u8 (fun e => ne45 (Option.some.inj e).symm)
          refine wpAnyZ_oneB 9 rfl (by kernel_rfl) (fun K hK => ?_)
          refine step_stX _ rfl 29 (.tmp 15) (.tmp 38) rfl x4.heap.size _ _ rfl rfl p15 i6 rfl (by simp [Value.oneCell']) ?_
          intro y9 b15 u9
          refine hK _ _ (fun h => absurd (by decide) h) ?_
          try simp only [List.getElem_toArray, List.getElem_cons_succ, List.getElem_cons_zero, Act.put, List.setIfInBounds_toArray, List.set_cons_zero, List.set_cons_succ]
          refine wpAnyZ_takeF 10 (.slice xa vn xc) rfl (by kernel_rfl) (fun _ _ _ h => hP _ _ _ _ (by rfl) h) rfl (by intro wz; go_simp) ?_
          try simp only [List.getElem_toArray, List.getElem_cons_succ, List.getElem_cons_zero, Act.put, List.setIfInBounds_toArray, List.set_cons_zero, List.set_cons_succ]
          refine wpAnyZ_doneB (by kernel_rfl) ?_ _
          have b14 := b14.keep u9 (fun e => ne45 (Option.some.inj e))
          have hQ8 := hQ.kept2 u8 (fun h0 b off e e2 => by have := hqb h0 b off e; have e2 := Option.some.inj e2; omega)
          have hQ9 := hQ8.kept2 u9 (fun h0 b off e e2 => by have := hqb h0 b off e; have e2 := Option.some.inj e2; omega)
          have hO8 : OwVg y8 wa.heap.size A2 D := ⟨hO.b.kept u8 (.inr (hO.b.ne_box p14 (by decide))), hO.p.kept u8 (.inr (hO.p.ne_box p14 (by decide))), hO.t.kept u8 (.inr (hO.t.ne_box p14 (by decide))), hO.ne⟩
          have hO9 : OwVg y9 wa.heap.size A2 D := ⟨hO8.b.kept u9 (.inr (hO8.b.ne_box p15 (by decide))), hO8.p.kept u9 (.inr (hO8.p.ne_box p15 (by decide))), hO8.t.kept u9 (.inr (hO8.t.ne_box p15 (by decide))), hO.ne⟩
          have hC8 := hC.kept u8 (.inr (hC.ne_box p14 (by decide)))
          have hC9 := hC8.kept u9 (.inr (hC8.ne_box p15 (by decide)))
          have GR : wa.grownBy y9 none := grown_far (grown_far SS u8 (fun q e => by have e := Option.some.inj e; omega)) u9 (fun q e => by have e := Option.some.inj e; omega)
          exact hQq _ _ _ _ _ _ x0.heap.size x4.heap.size q c A2 xa xc y9 b14 b15 hQ9 hO9 hC9.rd GR
        · go_simp
          have gX := World.grownBy_alloc x3 (.cells #[.bool false, .int .i64 0, .slice none 0 0, .slice none 0 0, .int .i64 0, .slice none 0 0] 29) none
          have p15 := BxS.new x3 29 #[.bool false, .int .i64 0, .slice none 0 0, .slice none 0 0, .int .i64 0, .slice none 0 0]
          have n15 : wa.heap.size ≤ x3.heap.size := SS.size
          have hQ := hQ.keep gX
          have hO := hO.keep gX
          have p14 := p14.keep gX (by simp)
          have SS := grown_trans SS gX
          refine hK _ _ (fun _ => SS) ?_
          try simp only [List.getElem_toArray, List.getElem_cons_succ, List.getElem_cons_zero, Act.put, List.setIfInBounds_toArray, List.set_cons_zero, List.set_cons_succ]
          generalize hz4 : x3.alloc (.cells #[.bool false, .int .i64 0, .slice none 0 0, .slice none 0 0, .int .i64 0, .slice none 0 0] 29) = x4 at *
          have sz4 : x3.heap.size + 1 ≤ x4.heap.size := by rw [← hz4]; simp
          clear hz4 gX
          refine wpAnyZ_oneB 5 rfl (by kernel_rfl) (fun K hK => ?_)
          go_simp
          go_at_call 16
          refine (kC _ (hX.keep SS)).mono ?_
          rintro e x5 ⟨xa, xc, rfl, hC, gX⟩
          dsimp only
          have hQ := hQ.keep gX
          have hO := hO.keep gX
          have p14 := p14.keep gX (by simp)
          have p15 := p15.keep gX (by simp)
          have SS := grown_trans SS gX
          refine hK _ _ (fun _ => SS) ?_
          try simp only [List.getElem_toArray, List.getElem_cons_succ, List.getElem_cons_zero, Act.put, List.setIfInBounds_toArray, List.set_cons_zero, List.set_cons_succ]
          have sz5 := gX.size
          clear gX
          have u4 := p14.lt
          have u5 := p15.lt
          have ne45 : x0.heap.size ≠ x3.heap.size := by omega
          refine wpAnyZ_oneB 8 rfl (by kernel_rfl) (fun K hK => ?_)
          refine step_stX _ rfl 24 (.tmp 14) (.tmp 36) rfl x0.heap.size _ _ rfl rfl p14 i5 rfl (by simp [Value.oneCell']) ?_
          intro y8 b14 u8
          refine hK _ _ (fun h => absurd (by decide) h) ?_
          try simp only [List.getElem_toArray, List.getElem_cons_succ, List.getElem_cons_zero, Act.put, List.setIfInBounds_toArray, List.set_cons_zero, List.set_cons_succ]
          have p15 := p15.keep u8 (fun e => ne45 (Option.some.inj e).symm)
          refine wpAnyZ_oneB 9 rfl (by kernel_rfl) (fun K hK => ?_)
          refine step_stX _ rfl 29 (.tmp 15) (.tmp 38) rfl x3.heap.size _ _ rfl rfl p15 i6 rfl (by simp [Value.oneCell']) ?_
          intro y9 b15 u9
          refine hK _ _ (fun h => absurd (by decide) h) ?_
          try simp only [List.getElem_toArray, List.getElem_cons_succ, List.getElem_cons_zero, Act.put, List.setIfInBounds_toArray, List.set_cons_zero, List.set_cons_succ]
          refine wpAnyZ_takeF 10 (.slice xa vn xc) rfl (by kernel_rfl) (fun _ _ _ h => hP _ _ _ _ (by rfl) h) rfl (by intro wz; go_simp) ?_
          try simp only [List.getElem_toArray, List.getElem_cons_succ, List.getElem_cons_zero, Act.put, List.setIfInBounds_toArray, List.set_cons_zero, List.set_cons_succ]
          refine wpAnyZ_doneB (by kernel_rfl) ?_ _
          have b14 := b14.keep u9 (fun e => ne45 (Option.some.inj e))
          have hQ8 := hQ.kept2 u8 (fun h0 b off e e2 => by have := hqb h0 b off e; have e2 := Option.some.inj e2; omega)
          have hQ9 := hQ8.kept2 u9 (fun h0 b off e e2 => by have := hqb h0 b off e; have e2 := Option.some.inj e2; omega)
          have hO8 : OwVg y8 wa.heap.size A2 D := ⟨hO.b.kept u8 (.inr (hO.b.ne_box p14 (by decide))), hO.p.kept u8 (.inr (hO.p.ne_box p14 (by decide))), hO.t.kept u8 (.inr (hO.t.ne_box p14 (by decide))), hO.ne⟩
          have hO9 : OwVg y9 wa.heap.size A2 D := ⟨hO8.b.kept u9 (.inr (hO8.b.ne_box p15 (by decide))), hO8.p.kept u9 (.inr (hO8.p.ne_box p15 (by decide))), hO8.t.kept u9 (.inr (hO8.t.ne_box p15 (by decide))), hO.ne⟩
          have hC8 := hC.kept u8 (.inr (hC.ne_box p14 (by decide)))
          have hC9 := hC8.kept u9 (.inr (hC8.ne_box p15 (by decide)))
          have GR : wa.grownBy y9 none := grown_far (grown_far SS u8 (fun q e => by have e := Option.some.inj e; omega)) u9 (fun q e => by have e := Option.some.inj e; omega)
          exact hQq _ _ _ _ _ _ x0.heap.size x3.heap.size q c A2 xa xc y9 b14 b15 hQ9 hO9 hC9.rd GR
      · go_simp
        have gX := World.grownBy_alloc x2 (.cells #[.bool false, .int .i64 0, .slice none 0 0, .slice none 0 0, .int .i64 0, .slice none 0 0] 29) none
        have p15 := BxS.new x2 29 #[.bool false, .int .i64 0, .slice none 0 0, .slice none 0 0, .int .i64 0, .slice none 0 0]
        have n15 : wa.heap.size ≤ x2.heap.size := SS.size
        have hQ := hQ.keep gX
        have p14 := p14.keep gX (by simp)
        have SS := grown_trans SS gX
        refine hK _ _ (fun _ => SS) ?_
        try simp only [List.getElem_toArray, List.getElem_cons_succ, List.getElem_cons_zero, Act.put, List.setIfInBounds_toArray, List.set_cons_zero, List.set_cons_succ]
        generalize hz3 : x2.alloc (.cells #[.bool false, .int .i64 0, .slice none 0 0, .slice none 0 0, .int .i64 0, .slice none 0 0] 29) = x3 at *
        have sz3 : x2.heap.size + 1 ≤ x3.heap.size := by rw [← hz3]; simp
        clear hz3 gX
        refine wpAnyZ_oneB 3 rfl (by kernel_rfl) (fun K hK => ?_)
        go_simp
        go_at_call 15
        refine (kV _ (hV.keep SS)).mono ?_
        rintro e x4 ⟨A2, rfl, hO0, gX⟩
        dsimp only
        have sz0 := SS.size
        have hO : OwVg _ wa.heap.size A2 D := ⟨hO0.b.low sz0, hO0.p.low sz0, hO0.t.low sz0, hO0.ne⟩
        clear hO0 sz0
        have hQ := hQ.keep gX
        have p14 := p14.keep gX (by simp)
        have p15 := p15.keep gX (by simp)
        have SS := grown_trans SS gX
        refine hK _ _ (fun _ => SS) ?_
        try simp only [List.getElem_toArray, List.getElem_cons_succ, List.getElem_cons_zero, Act.put, List.setIfInBounds_toArray, List.set_cons_zero, List.set_cons_succ]
        have sz4 := gX.size
        clear gX
        refine wpAnyZ_oneB 5 rfl (by kernel_rfl) (fun K hK => ?_)
        go_simp
        go_at_call 16
        refine (kC _ (hX.keep SS)).mono ?_
        rintro e x5 ⟨xa, xc, rfl, hC, gX⟩
        dsimp only
        have hQ := hQ.keep gX
        have hO := hO.keep gX
        have p14 := p14.keep gX (by simp)
        have p15 := p15.keep gX (by simp)
        have SS := grown_trans SS gX
        refine hK _ _ (fun _ => SS) ?_
        try simp only [List.getElem_toArray, List.getElem_cons_succ, List.getElem_cons_zero, Act.put, List.setIfInBounds_toArray, List.set_cons_zero, List.set_cons_succ]
        have sz5 := gX.size
        clear gX
        have u4 := p14.lt
        have u5 := p15.lt
        have ne45 : x0.heap.size ≠ x2.heap.size := by omega
        refine wpAnyZ_oneB 8 rfl (by kernel_rfl) (fun K hK => ?_)
        refine step_stX _ rfl 24 (.tmp 14) (.tmp 36) rfl x0.heap.size _ _ rfl rfl p14 i5 rfl (by simp [Value.oneCell']) ?_
        intro y8 b14 u8
        refine hK _ _ (fun h => absurd (by decide) h) ?_
        try simp only [List.getElem_toArray, List.getElem_cons_succ, List.getElem_cons_zero, Act.put, List.setIfInBounds_toArray, List.set_cons_zero, List.set_cons_succ]
        have p15 := p15.keep u8 (fun e => ne45 (Option.some.inj e).symm)
        refine wpAnyZ_oneB 9 rfl (by kernel_rfl) (fun K hK => ?_)
        refine step_stX _ rfl 29 (.tmp 15) (.tmp 38) rfl x2.heap.size _ _ rfl rfl p15 i6 rfl (by simp [Value.oneCell']) ?_
        intro y9 b15 u9
        refine hK _ _ (fun h => absurd (by decide) h) ?_
        try simp only [List.getElem_toArray, List.getElem_cons_succ, List.getElem_cons_zero, Act.put, List.setIfInBounds_toArray, List.set_cons_zero, List.set_cons_succ]
        refine wpAnyZ_takeF 10 (.slice xa vn xc) rfl (by kernel_rfl) (fun _ _ _ h => hP _ _ _ _ (by rfl) h) rfl (by intro wz; go_simp) ?_
        try simp only [List.getElem_toArray, List.getElem_cons_succ, List.getElem_cons_zero, Act.put, List.setIfInBounds_toArray, List.set_cons_zero, List.set_cons_succ]
        refine wpAnyZ_doneB (by kernel_rfl) ?_ _
        have b14 := b14.keep u9 (fun e => ne45 (Option.some.inj e))
        have hQ8 := hQ.kept2 u8 (fun h0 b off e e2 => by have := hqb h0 b off e; have e2 := Option.some.inj e2; omega)
        have hQ9 := hQ8.kept2 u9 (fun h0 b off e e2 => by have := hqb h0 b off e; have e2 := Option.some.inj e2; omega)
        have hO8 : OwVg y8 wa.heap.size A2 D := ⟨hO.b.kept u8 (.inr (hO.b.ne_box p14 (by decide))), hO.p.kept u8 (.inr (hO.p.ne_box p14 (by decide))), hO.t.kept u8 (.inr (hO.t.ne_box p14 (by decide))), hO.ne⟩
        have hO9 : OwVg y9 wa.heap.size A2 D := ⟨hO8.b.kept u9 (.inr (hO8.b.ne_box p15 (by decide))), hO8.p.kept u9 (.inr (hO8.p.ne_box p15 (by decide))), hO8.t.kept u9 (.inr (hO8.t.ne_box p15 (by decide))), hO.ne⟩
        have hC8 := hC.kept u8 (.inr (hC.ne_box p14 (by decide)))
        have hC9 := hC8.kept u9 (.inr (hC8.ne_box p15 (by decide)))
        have GR : wa.grownBy y9 none := grown_far (grown_far SS u8 (fun q e => by have e := Option.some.inj e; omega)) u9 (fun q e => by have e := Option.some.inj e; omega)
        exact hQq _ _ _ _ _ _ x0.heap.size x2.heap.size q c A2 xa xc y9 b14 b15 hQ9 hO9 hC9.rd GR
    · go_simp
      have gX := World.grownBy_alloc x1 (.cells #[.bool false, .int .i64 0, .slice none 0 0, .slice none 0 0, .int .i64 0, .slice none 0 0] 29) none
      have p15 := BxS.new x1 29 #[.bool false, .int .i64 0, .slice none 0 0, .slice none 0 0, .int .i64 0, .slice none 0 0]
      have n15 : wa.heap.size ≤ x1.heap.size := SS.size
      have p14 := p14.keep gX (by simp)
      have SS := grown_trans SS gX
      refine hK _ _ (fun _ => SS) ?_
      try simp only [List.getElem_toArray, List.getElem_cons_succ, List.getElem_cons_zero, Act.put, List.setIfInBounds_toArray, List.set_cons_zero, List.set_cons_succ]
      generalize hz2 : x1.alloc (.cells #[.bool false, .int .i64 0, .slice none 0 0, .slice none 0 0, .int .i64 0, .slice none 0 0] 29) = x2 at *
      have sz2 : x1.heap.size + 1 ≤ x2.heap.size := by rw [← hz2]; simp
      clear hz2 gX
      refine wpAnyZ_oneB 1 rfl (by kernel_rfl) (fun K hK => ?_)
      go_simp
      go_at_call 6
      refine (kG _ (hM.keep SS)).mono ?_
      rintro e x3 ⟨q, c, rfl, hQ, hq, gX⟩
      dsimp only
      have hqb : 0 < G.n → ∀ b off, q = some ⟨b, off, none⟩ → x2.heap.size ≤ b ∧ b < x3.heap.size := fun h0 b off e => ⟨hq b off e, by obtain ⟨b2, o2, e2, hb2, _⟩ := hQ.at' h0; rw [e] at e2; cases e2; exact hb2⟩
      clear hq
      have p14 := p14.keep gX (by simp)
      have p15 := p15.keep gX (by simp)
      have SS := grown_trans SS gX
      refine hK _ _ (fun _ => SS) ?_
      try simp only [List.getElem_toArray, List.getElem_cons_succ, List.getElem_cons_zero, Act.put, List.setIfInBounds_toArray, List.set_cons_zero, List.set_cons_succ]
      have sz3 := gX.size
      clear gX
      refine wpAnyZ_oneB 3 rfl (by kernel_rfl) (fun K hK => ?_)
      go_simp
      go_at_call 15
      refine (kV _ (hV.keep SS)).mono ?_
      rintro e x4 ⟨A2, rfl, hO0, gX⟩
      dsimp only
      have sz0 := SS.size
      have hO : OwVg _ wa.heap.size A2 D := ⟨hO0.b.low sz0, hO0.p.low sz0, hO0.t.low sz0, hO0.ne⟩
      clear hO0 sz0
      have hQ := hQ.keep gX
      have p14 := p14.keep gX (by simp)
      have p15 := p15.keep gX (by simp)
      have SS := grown_trans SS gX
      refine hK _ _ (fun _ => SS) ?_
      try simp only [List.getElem_toArray, List.getElem_cons_succ, List.getElem_cons_zero, Act.put, List.setIfInBounds_toArray, List.set_cons_zero, List.set_cons_succ]
      have sz4 := gX.size
      clear gX
      refine wpAnyZ_oneB 5 rfl (by kernel_rfl) (fun K hK => ?_)
      go_simp
      go_at_call 16
      refine (kC _ (hX.keep SS)).mono ?_
      rintro e x5 ⟨xa, xc, rfl, hC, gX⟩
      dsimp only
      have hQ := hQ.keep gX
      have hO := hO.keep gX
      have p14 := p14.keep gX (by simp)
      have p15 := p15.keep gX (by simp)
      have SS := grown_trans SS gX
      refine hK _ _ (fun _ => SS) ?_
      try simp only [List.getElem_toArray, List.getElem_cons_succ, List.getElem_cons_zero, Act.put, List.setIfInBounds_toArray, List.set_cons_zero, List.set_cons_succ]
      have sz5 := gX.size
      clear gX
      have u4 := p14.lt
      have u5 := p15.lt
      have ne45 : x0.heap.size ≠ x1.heap.size := by omega
      refine wpAnyZ_oneB 8 rfl (by kernel_rfl) (fun K hK => ?_)
      refine step_stX _ rfl 24 (.tmp 14) (.tmp 36) rfl x0.heap.size _ _ rfl rfl p14 i5 rfl (by simp [Value.oneCell']) ?_
      intro y8 b14 u8
      refine hK _ _ (fun h => absurd (by decide) h) ?_
      try simp only [List.getElem_toArray, List.getElem_cons_succ, List.getElem_cons_zero, Act.put, List.setIfInBounds_toArray, List.set_cons_zero, List.set_cons_succ]
      have p15 := p15.keep u8 (fun e => ne45 (Option.some.inj e).symm)
      refine wpAnyZ_oneB 9 rfl (by kernel_rfl) (fun K hK => ?_)
      refine step_stX _ rfl 29 (.tmp 15) (.tmp 38) rfl x1.heap.size _ _ rfl rfl p15 i6 rfl (by simp [Value.oneCell']) ?_
      intro y9 b15 u9
      refine hK _ _ (fun h => absurd (by decide) h) ?_
      try simp only [List.getElem_toArray, List.getElem_cons_succ, List.getElem_cons_zero, Act.put, List.setIfInBounds_toArray, List.set_cons_zero, List.set_cons_succ]
      refine wpAnyZ_takeF 10 (.slice xa vn xc) rfl (by kernel_rfl) (fun _ _ _ h => hP _ _ _ _ (by rfl) h) rfl (by intro wz; go_simp) ?_
      try simp only [List.getElem_toArray, List.getElem_cons_succ, List.getElem_cons_zero, Act.put, List.setIfInBounds_toArray, List.set_cons_zero, List.set_cons_succ]
      refine wpAnyZ_doneB (by kernel_rfl) ?_ _
      have b14 := b14.keep u9 (fun e => ne45 (Option.some.inj e))
      have hQ8 := hQ.kept2 u8 (fun h0 b off e e2 => by have := hqb h0 b off e; have e2 := Option.some.inj e2; omega)
      have hQ9 := hQ8.kept2 u9 (fun h0 b off e e2 => by have := hqb h0 b off e; have e2 := Option.some.inj e2; omega)
      have hO8 : OwVg y8 wa.heap.size A2 D := ⟨hO.b.kept u8 (.inr (hO.b.ne_box p14 (by decide))), hO.p.kept u8 (.inr (hO.p.ne_box p14 (by decide))), hO.t.kept u8 (.inr (hO.t.ne_box p14 (by decide))), hO.ne⟩
      have hO9 : OwVg y9 wa.heap.size A2 D := ⟨hO8.b.kept u9 (.inr (hO8.b.ne_box p15 (by decide))), hO8.p.kept u9 (.inr (hO8.p.ne_box p15 (by decide))), hO8.t.kept u9 (.inr (hO8.t.ne_box p15 (by decide))), hO.ne⟩
      have hC8 := hC.kept u8 (.inr (hC.ne_box p14 (by decide)))
      have hC9 := hC8.kept u9 (.inr (hC8.ne_box p15 (by decide)))
      have GR : wa.grownBy y9 none := grown_far (grown_far SS u8 (fun q e => by have e := Option.some.inj e; omega)) u9 (fun q e => by have e := Option.some.inj e; omega)
      exact hQq _ _ _ _ _ _ x0.heap.size x1.heap.size q c A2 xa xc y9 b14 b15 hQ9 hO9 hC9.rd GR
  · go_simp
    have gX := World.grownBy_alloc x0 (.cells #[.bool false, .int .i64 0, .slice none 0 0, .slice none 0 0, .int .i64 0, .slice none 0 0] 29) none
    have p15 := BxS.new x0 29 #[.bool false, .int .i64 0, .slice none 0 0, .slice none 0 0, .int .i64 0, .slice none 0 0]
    have n15 : wa.heap.size ≤ x0.heap.size := SS.size
    have SS := grown_trans SS gX
    refine hK _ _ (fun _ => SS) ?_
    try simp only [List.getElem_toArray, List.getElem_cons_succ, List.getElem_cons_zero, Act.put, List.setIfInBounds_toArray, List.set_cons_zero, List.set_cons_succ]
    generalize hz1 : x0.alloc (.cells #[.bool false, .int .i64 0, .slice none 0 0, .slice none 0 0, .int .i64 0, .slice none 0 0] 29) = x1 at *
    have sz1 : x0.heap.size + 1 ≤ x1.heap.size := by rw [← hz1]; simp
    clear hz1 gX
    refine wpAnyZ_twoB 1 6 rfl rfl (by kernel_rfl) (fun K hK => ?_) (fun K hK => ?_)
    · go_simp
      go_at_call 6
      refine (kG _ (hM.keep SS)).mono ?_
      rintro e x2 ⟨q, c, rfl, hQ, hq, gX⟩
      dsimp only
      have hqb : 0 < G.n → ∀ b off, q = some ⟨b, off, none⟩ → x1.heap.size ≤ b ∧ b < x2.heap.size := fun h0 b off e => ⟨hq b off e, by obtain ⟨b2, o2, e2, hb2, _⟩ := hQ.at' h0; rw [e] at e2; cases e2; exact hb2⟩
      clear hq
      have p15 := p15.keep gX (by simp)
      have SS := grown_trans SS gX
      refine hK _ _ (fun _ => SS) ?_
      try simp only [List.getElem_toArray, List.getElem_cons_succ, List.getElem_cons_zero, Act.put, List.setIfInBounds_toArray, List.set_cons_zero, List.set_cons_succ]
      have sz2 := gX.size
      clear gX
      refine wpAnyZ_twoB 3 6 rfl rfl (by kernel_rfl) (fun K hK => ?_) (fun K hK => ?_)
      · go_simp
        go_at_call 15
        refine (kV _ (hV.keep SS)).mono ?_
        rintro e x3 ⟨A2, rfl, hO0, gX⟩
        dsimp only
        have sz0 := SS.size
        have hO : OwVg _ wa.heap.size A2 D := ⟨hO0.b.low sz0, hO0.p.low sz0, hO0.t.low sz0, hO0.ne⟩
        clear hO0 sz0
        have hQ := hQ.keep gX
        have p15 := p15.keep gX (by simp)
        have SS := grown_trans SS gX
        refine hK _ _ (fun _ => SS) ?_
        try simp only [List.getElem_toArray, List.getElem_cons_succ, List.getElem_cons_zero, Act.put, List.setIfInBounds_toArray, List.set_cons_zero, List.set_cons_succ]
        have sz3 := gX.size
        clear gX
        refine wpAnyZ_twoB 5 6 rfl rfl (by kernel_rfl) (fun K hK => ?_) (fun K hK => ?_)
        · go_simp
          go_at_call 16
          refine (kC _ (hX.keep SS)).mono ?_
          rintro e x4 ⟨xa, xc, rfl, hC, gX⟩
          dsimp only
          have hQ := hQ.keep gX
          have hO := hO.keep gX
          have p15 := p15.keep gX (by simp)
          have SS := grown_trans SS gX
          refine hK _ _ (fun _ => SS) ?_
          try simp only [List.getElem_toArray, List.getElem_cons_succ, List.getElem_cons_zero, Act.put, List.setIfInBounds_toArray, List.set_cons_zero, List.set_cons_succ]
          have sz4 := gX.size
          clear gX
          refine wpAnyZ_oneB 6 rfl (by kernel_rfl) (fun K hK => ?_)
          go_simp
          have gX := World.grownBy_alloc x4 (.cells #[.slice none 0 0, .int .i64 0, .int .i64 0, .int .i64 0, .string ⟨#[]⟩] 24) none
          have p14 := BxS.new x4 24 #[.slice none 0 0, .int .i64 0, .int .i64 0, .int .i64 0, .string ⟨#[]⟩]
          have n14 : wa.heap.size ≤ x4.heap.size := SS.size
          have hQ := hQ.keep gX
          have hO := hO.keep gX
          have hC := hC.keep gX
          have p15 := p15.keep gX (by simp)
          have SS := grown_trans SS gX
          refine hK _ _ (fun _ => SS) ?_
          try simp only [List.getElem_toArray, List.getElem_cons_succ, List.getElem_cons_zero, Act.put, List.setIfInBounds_toArray, List.set_cons_zero, List.set_cons_succ]
          generalize hz5 : x4.alloc (.cells #[.slice none 0 0, .int .i64 0, .int .i64 0, .int .i64 0, .string ⟨#[]⟩] 24) = x5 at *
          have sz5 : x4.heap.size + 1 ≤ x5.heap.size := by rw [← hz5]; simp
          clear hz5 gX
          have u4 := p14.lt
          have u5 := p15.lt
          have ne45 : x4.heap.size ≠ x0.heap.size := by omega
          refine wpAnyZ_oneB 8 rfl (by kernel_rfl) (fun K hK => ?_)
          refine step_stX _ rfl 24 (.tmp 14) (.tmp 36) rfl x4.heap.size _ _ rfl rfl p14 i5 rfl (by simp [Value.oneCell']) ?_
          intro y8 b14 u8
          refine hK _ _ (fun h => absurd (by decide) h) ?_
          try simp only [List.getElem_toArray, List.getElem_cons_succ, List.getElem_cons_zero, Act.put, List.setIfInBounds_toArray, List.set_cons_zero, List.set_cons_succ]
          have p15 := p15.keep u8 (fun e => ne45 (Option.some.inj e).symm)
          refine wpAnyZ_oneB 9 rfl (by kernel_rfl) (fun K hK => ?_)
          refine step_stX _ rfl 29 (.tmp 15) (.tmp 38) rfl x0.heap.size _ _ rfl rfl p15 i6 rfl (by simp [Value.oneCell']) ?_
          intro y9 b15 u9
          refine hK _ _ (fun h => absurd (by decide) h) ?_
          try simp only [List.getElem_toArray, List.getElem_cons_succ, List.getElem_cons_zero, Act.put, List.setIfInBounds_toArray, List.set_cons_zero, List.set_cons_succ]
          refine wpAnyZ_takeF 10 (.slice xa vn xc) rfl (by kernel_rfl) (fun _ _ _ h => hP _ _ _ _ (by rfl) h) rfl (by intro wz; go_simp) ?_
          try simp only [List.getElem_toArray, List.getElem_cons_succ, List.getElem_cons_zero, Act.put, List.setIfInBounds_toArray, List.set_cons_zero, List.set_cons_succ]
          refine wpAnyZ_doneB (by kernel_rfl) ?_ _
          have b14 := b14.keep u9 (fun e => ne45 (Option.some.inj e))
          have hQ8 := hQ.kept2 u8 (fun h0 b off e e2 => by have := hqb h0 b off e; have e2 := Option.some.inj e2; omega)
          have hQ9 := hQ8.kept2 u9 (fun h0 b off e e2 => by have := hqb h0 b off e; have e2 := Option.some.inj e2; omega)
          have hO8 : OwVg y8 wa.heap.size A2 D := ⟨hO.b.kept u8 (.inr (hO.b.ne_box p14 (by decide))), hO.p.kept u8 (.inr (hO.p.ne_box p14 (by decide))), hO.t.kept u8 (.inr (hO.t.ne_box p14 (by decide))), hO.ne⟩
          have hO9 : OwVg y9 wa.heap.size A2 D := ⟨hO8.b.kept u9 (.inr (hO8.b.ne_box p15 (by decide))), hO8.p.kept u9 (.inr (hO8.p.ne_box p15 (by decide))), hO8.t.kept u9 (.inr (hO8.t.ne_box p15 (by decide))), hO.ne⟩
          have hC8 := hC.kept u8 (.inr (hC.ne_box p14 (by decide)))
          have hC9 := hC8.kept u9 (.inr (hC8.ne_box p15 (by decide)))
          have GR : wa.grownBy y9 none := grown_far (grown_far SS u8 (fun q e => by have e := Option.some.inj e; omega)) u9 (fun q e => by have e := Option.some.inj e; omega)
          exact hQq _ _ _ _ _ _ x4.heap.size x0.heap.size q c A2 xa xc y9 b14 b15 hQ9 hO9 hC9.rd GR
        · go_simp
          have gX := World.grownBy_alloc x3 (.cells #[.slice none 0 0, .int .i64 0, .int .i64 0, .int .i64 0, .string ⟨#[]⟩] 24) none
          have p14 := BxS.new x3 24 #[.slice none 0 0, .int .i64 0, .int .i64 0, .int .i64 0, .string ⟨#[]⟩]
          have n14 : wa.heap.size ≤ x3.heap.size := SS.size
          have hQ := hQ.keep gX
          have hO := hO.keep gX
          have p15 := p15.keep gX (by simp)
          have SS := grown_trans SS gX
          refine hK _ _ (fun _ => SS) ?_
          try simp only [List.getElem_toArray, List.getElem_cons_succ, List.getElem_cons_zero, Act.put, List.setIfInBounds_toArray, List.set_cons_zero, List.set_cons_succ]
          generalize hz4 : x3.alloc (.cells #[.slice none 0 0, .int .i64 0, .int .i64 0, .int .i64 0, .string ⟨#[]⟩] 24) = x4 at *
          have sz4 : x3.heap.size + 1 ≤ x4.heap.size := by rw [← hz4]; simp
          clear hz4 gX
          refine wpAnyZ_oneB 5 rfl (by kernel_rfl) (fun K hK => ?_)
          go_simp
          go_at_call 16
          refine (kC _ (hX.keep SS)).mono ?_
          rintro e x5 ⟨xa, xc, rfl, hC, gX⟩
          dsimp only
          have hQ := hQ.keep gX
          have hO := hO.keep gX
          have p14 := p14.keep gX (by simp)
          have p15 := p15.keep gX (by simp)
          have SS := grown_trans SS gX
          refine hK _ _ (fun _ => SS) ?_
          try simp only [List.getElem_toArray, List.getElem_cons_succ, List.getElem_cons_zero, Act.put, List.setIfInBounds_toArray, List.set_cons_zero, List.set_cons_succ]
          have sz5 := gX.size
          clear gX
          have u4 := p14.lt
          have u5 := p15.lt
          have ne45 : x3.heap.size ≠ x0.heap.size := by omega
          refine wpAnyZ_oneB 8 rfl (by kernel_rfl) (fun K hK => ?_)
          refine step_stX _ rfl 24 (.tmp 14) (.tmp 36) rfl x3.heap.size _ _ rfl rfl p14 i5 rfl (by simp [Value.oneCell']) ?_
          intro y8 b14 u8
          refine hK _ _ (fun h => absurd (by decide) h) ?_
          try simp only [List.getElem_toArray, List.getElem_cons_succ, List.getElem_cons_zero, Act.put, List.setIfInBounds_toArray, List.set_cons_zero, List.set_cons_succ]
          have p15 := p15.keep u8 (fun e => ne45 (Option.some.inj e).symm)
          refine wpAnyZ_oneB 9 rfl (by kernel_rfl) (fun K hK => ?_)
          refine step_stX _ rfl 29 (.tmp 15) (.tmp 38) rfl x0.heap.size _ _ rfl rfl p15 i6 rfl (by simp [Value.oneCell']) ?_
          intro y9 b15 u9
          refine hK _ _ (fun h => absurd (by decide) h) ?_
          try simp only [List.getElem_toArray, List.getElem_cons_succ, List.getElem_cons_zero, Act.put, List.setIfInBounds_toArray, List.set_cons_zero, List.set_cons_succ]
          refine wpAnyZ_takeF 10 (.slice xa vn xc) rfl (by kernel_rfl) (fun _ _ _ h => hP _ _ _ _ (by rfl) h) rfl (by intro wz; go_simp) ?_
          try simp only [List.getElem_toArray, List.getElem_cons_succ, List.getElem_cons_zero, Act.put, List.setIfInBounds_toArray, List.set_cons_zero, List.set_cons_succ]
          refine wpAnyZ_doneB (by kernel_rfl) ?_ _
          have b14 := b14.keep u9 (fun e => ne45 (Option.some.inj e))
          have hQ8 := hQ.kept2 u8 (fun h0 b off e e2 => by have := hqb h0 b off e; have e2 := Option.some.inj e2; omega)
          have hQ9 := hQ8.kept2 u9 (fun h0 b off e e2 => by have := hqb h0 b off e; have e2 := Option.some.inj e2; omega)
          have hO8 : OwVg y8 wa.heap.size A2 D := ⟨hO.b.kept u8 (.inr (hO.b.ne_box p14 (by decide))), hO.p.kept u8 (.inr (hO.p.ne_box p14 (by decide))), hO.t.kept u8 (.inr (hO.t.ne_box p14 (by decide))), hO.ne⟩
          have hO9 : OwVg y9 wa.heap.size A2 D := ⟨hO8.b.kept u9 (.inr (hO8.b.ne_box p15 (by decide))), hO8.p.kept u9 (.inr (hO8.p.ne_box p15 (by decide))), hO8.t.kept u9 (.inr (hO8.t.ne_box p15 (by decide))), hO.ne⟩
          have hC8 := hC.kept u8 (.inr (hC.ne_box p14 (by decide)))
          have hC9 := hC8.kept u9 (.inr (hC8.ne_box p15 (by decide)))
          have GR : wa.grownBy y9 none := grown_far (grown_far SS u8 (fun q e => by have e := Option.some.inj e; omega)) u9 (fun q e => by have e := Option.some.inj e; omega)
          exact hQq _ _ _ _ _ _ x3.heap.size x0.heap.size q c A2 xa xc y9 b14 b15 hQ9 hO9 hC9.rd GR
      · go_simp
        have gX := World.grownBy_alloc x2 (.cells #[.slice none 0 0, .int .i64 0, .int .i64 0, .int .i64 0, .string ⟨#[]⟩] 24) none
        have p14 := BxS.new x2 24 #[.slice none 0 0, .int .i64 0, .int .i64 0, .int .i64 0, .string ⟨#[]⟩]
        have n14 : wa.heap.size ≤ x2.heap.size := SS.size
        have hQ := hQ.keep gX
        have p15 := p15.keep gX (by simp)
        have SS := grown_trans SS gX
        refine hK _ _ (fun _ => SS) ?_
        try simp only [List.getElem_toArray, List.getElem_cons_succ, List.getElem_cons_zero, Act.put, List.setIfInBounds_toArray, List.set_cons_zero, List.set_cons_succ]
        generalize hz3 : x2.alloc (.cells #[.slice none 0 0, .int .i64 0, .int .i64 0, .int .i64 0, .string ⟨#[]⟩] 24) = x3 at *
        have sz3 : x2.heap.size + 1 ≤ x3.heap.size := by rw [← hz3]; simp
        clear hz3 gX
        refine wpAnyZ_oneB 3 rfl (by kernel_rfl) (fun K hK => ?_)
        go_simp
        go_at_call 15
        refine (kV _ (hV.keep SS)).mono ?_
        rintro e x4 ⟨A2, rfl, hO0, gX⟩
        dsimp only
        have sz0 := SS.size
        have hO : OwVg _ wa.heap.size A2 D := ⟨hO0.b.low sz0, hO0.p.low sz0, hO0.t.low sz0, hO0.ne⟩
        clear hO0 sz0
        have hQ := hQ.keep gX
        have p14 := p14.keep gX (by simp)
        have p15 := p15.keep gX (by simp)
        have SS := grown_trans SS gX
        refine hK _ _ (fun _ => SS) ?_
        try simp only [List.getElem_toArray, List.getElem_cons_succ, List.getElem_cons_zero, Act.put, List.setIfInBounds_toArray, List.set_cons_zero, List.set_cons_succ]
        have sz4 := gX.size
        clear gX
        refine wpAnyZ_oneB 5 rfl (by kernel_rfl) (fun K hK => ?_)
        go_simp
        go_at_call 16
        refine (kC _ (hX.keep SS)).mono ?_
        rintro e x5 ⟨xa, xc, rfl, hC, gX⟩
        dsimp only
        have hQ := hQ.keep gX
        have hO := hO.keep gX
        have p14 := p14.keep gX (by simp)
        have p15 := p15.keep gX (by simp)
        have SS := grown_trans SS gX
        refine hK _ _ (fun _ => SS) ?_
        try simp only [List.getElem_toArray, List.getElem_cons_succ, List.getElem_cons_zero, Act.put, List.setIfInBounds_toArray, List.set_cons_zero, List.set_cons_succ]
        have sz5 := gX.size
        clear gX
        have u4 := p14.lt
        have u5 := p15.lt
        have ne45 : x2.heap.size ≠ x0.heap.size := by omega
        refine wpAnyZ_oneB 8 rfl (by kernel_rfl) (fun K hK => ?_)
        refine step_stX _ rfl 24 (.tmp 14) (.tmp 36) rfl x2.heap.size _ _ rfl rfl p14 i5 rfl (by simp [Value.oneCell']) ?_
        intro y8 b14 u8
        refine hK _ _ (fun h => absurd (by decide) h) ?_
        try simp only [List.getElem_toArray, List.getElem_cons_succ, List.getElem_cons_zero, Act.put, List.setIfInBounds_toArray, List.set_cons_zero, List.set_cons_succ]
        have p15 := p15.keep u8 (fun e => ne45 (Option.some.inj e).symm)
        refine wpAnyZ_oneB 9 rfl (by kernel_rfl) (fun K hK => ?_)
        refine step_stX _ rfl 29 (.tmp 15) (.tmp 38) rfl x0.heap.size _ _ rfl rfl p15 i6 rfl (by simp [Value.oneCell']) ?_
        intro y9 b15 u9
        refine hK _ _ (fun h => absurd (by decide) h) ?_
        try simp only [List.getElem_toArray, List.getElem_cons_succ, List.getElem_cons_zero, Act.put, List.setIfInBounds_toArray, List.set_cons_zero, List.set_cons_succ]
        refine wpAnyZ_takeF 10 (.slice xa vn xc) rfl (by kernel_rfl) (fun _ _ _ h => hP _ _ _ _ (by rfl) h) rfl (by intro wz; go_simp) ?_
        try simp only [List.getElem_toArray, List.getElem_cons_succ, List.getElem_cons_zero, Act.put, List.setIfInBounds_toArray, List.set_cons_zero, List.set_cons_succ]
        refine wpAnyZ_doneB (by kernel_rfl) ?_ _
        have b14 := b14.keep u9 (fun e => ne45 (Option.some.inj e))
        have hQ8 := hQ.kept2 u8 (fun h0 b off e e2 => by have := hqb h0 b off e; have e2 := Option.some.inj e2; omega)
        have hQ9 := hQ8.kept2 u9 (fun h0 b off e e2 => by have := hqb h0 b off e; have e2 := Option.some.inj e2; omega)
        have hO8 : OwVg y8 wa.heap.size A2 D := ⟨hO.b.kept u8 (.inr (hO.b.ne_box p14 (by decide))), hO.p.kept u8 (.inr (hO.p.ne_box p14 (by decide))), hO.t.kept u8 (.inr (hO.t.ne_box p14 (by decide))), hO.ne⟩
        have hO9 : OwVg y9 wa.heap.size A2 D := ⟨hO8.b.kept u9 (.inr (hO8.b.ne_box p15 (by decide))), hO8.p.kept u9 (.inr (hO8.p.ne_box p15 (by decide))), hO8.t.kept u9 (.inr (hO8.t.ne_box p15 (by decide))), hO.ne⟩
        have hC8 := hC.kept u8 (.inr (hC.ne_box p14 (by decide)))
        have hC9 := hC8.kept u9 (.inr (hC8.ne_box p15 (by decide)))
        have GR : wa.grownBy y9 none := grown_far (grown_far SS u8 (fun q e => by have e := Option.some.inj e; omega)) u9 (fun q e => by have e := Option.some.inj e; omega)
        exact hQq _ _ _ _ _ _ x2.heap.size x0.heap.size q c A2 xa xc y9 b14 b15 hQ9 hO9 hC9.rd GR
    · go_simp
      have gX := World.grownBy_alloc x1 (.cells #[.slice none 0 0, .int .i64 0, .int .i64 0, .int .i64 0, .string ⟨#[]⟩] 24) none
      have p14 := BxS.new x1 24 #[.slice none 0 0, .int .i64 0, .int .i64 0, .int .i64 0, .string ⟨#[]⟩]
      have n14 : wa.heap.size ≤ x1.heap.size := SS.size
      have p15 := p15.keep gX (by simp)
      have SS := grown_trans SS gX
      refine hK _ _ (fun _ => SS) ?_
      try simp only [List.getElem_toArray, List.getElem_cons_succ, List.getElem_cons_zero, Act.put, List.setIfInBounds_toArray, List.set_cons_zero, List.set_cons_succ]
      generalize hz2 : x1.alloc (.cells #[.slice none 0 0, .int .i64 0, .int .i64 0, .int .i64 0, .string ⟨#[]⟩] 24) = x2 at *
      have sz2 : x1.heap.size + 1 ≤ x2.heap.size := by rw [← hz2]; simp
      clear hz2 gX
      refine wpAnyZ_oneB 1 rfl (by kernel_rfl) (fun K hK => ?_)
      go_simp
      go_at_call 6
      refine (kG _ (hM.keep SS)).mono ?_
      rintro e x3 ⟨q, c, rfl, hQ, hq, gX⟩
      dsimp only
      have hqb : 0 < G.n → ∀ b off, q = some ⟨b, off, none⟩ → x2.heap.size ≤ b ∧ b < x3.heap.size := fun h0 b off e => ⟨hq b off e, by obtain ⟨b2, o2, e2, hb2, _⟩ := hQ.at' h0; rw [e] at e2; cases e2; exact hb2⟩
      clear hq
      have p14 := p14.keep gX (by simp)
      have p15 := p15.keep gX (by simp)
      have SS := grown_trans SS gX
      refine hK _ _ (fun _ => SS) ?_
      try simp only [List.getElem_toArray, List.getElem_cons_succ, List.getElem_cons_zero, Act.put, List.setIfInBounds_toArray, List.set_cons_zero, List.set_cons_succ]
      have sz3 := gX.size
      clear gX
      refine wpAnyZ_oneB 3 rfl (by kernel_rfl) (fun K hK => ?_)
      go_simp
      go_at_call 15
      refine (kV _ (hV.keep SS)).mono ?_
      rintro e x4 ⟨A2, rfl, hO0, gX⟩
      dsimp only
      have sz0 := SS.size
      have hO : OwVg _ wa.heap.size A2 D := ⟨hO0.b.low sz0, hO0.p.low sz0, hO0.t.low sz0, hO0.ne⟩
      clear hO0 sz0
      have hQ := hQ.keep gX
      have p14 := p14.keep gX (by simp)
      have p15 := p15.keep gX (by simp)
      have SS := grown_trans SS gX
      refine hK _ _ (fun _ => SS) ?_
      try simp only [List.getElem_toArray, List.getElem_cons_succ, List.getElem_cons_zero, Act.put, List.setIfInBounds_toArray, List.set_cons_zero, List.set_cons_succ]
      have sz4 := gX.size
      clear gX
      refine wpAnyZ_oneB 5 rfl (by kernel_rfl) (fun K hK => ?_)
      go_simp
      go_at_call 16
      refine (kC _ (hX.keep SS)).mono ?_
      rintro e x5 ⟨xa, xc, rfl, hC, gX⟩
      dsimp only
      have hQ := hQ.keep gX
      have hO := hO.keep gX
      have p14 := p14.keep gX (by simp)
      have p15 := p15.keep gX (by simp)
      have SS := grown_trans SS gX
      refine hK _ _ (fun _ => SS) ?_
      try simp only [List.getElem_toArray, List.getElem_cons_succ, List.getElem_cons_zero, Act.put, List.setIfInBounds_toArray, List.set_cons_zero, List.set_cons_succ]
      have sz5 := gX.size
      clear gX
      have u4 := p14.lt
      have u5 := p15.lt
      have ne45 : x1.heap.size ≠ x0.heap.size := by omega
      refine wpAnyZ_oneB 8 rfl (by kernel_rfl) (fun K hK => ?_)
      refine step_stX _ rfl 24 (.tmp 14) (.tmp 36) rfl x1.heap.size _ _ rfl rfl p14 i5 rfl (by simp [Value.oneCell']) ?_
      intro y8 b14 u8
      refine hK _ _ (fun h => absurd (by decide) h) ?_
      try simp only [List.getElem_toArray, List.getElem_cons_succ, List.getElem_cons_zero, Act.put, List.setIfInBounds_toArray, List.set_cons_zero, List.set_cons_succ]
      have p15 := p15.keep u8 (fun e => ne45 (Option.some.inj e).symm)
      refine wpAnyZ_oneB 9 rfl (by kernel_rfl) (fun K hK => ?_)
      refine step_stX _ rfl 29 (.tmp 15) (.tmp 38) rfl x0.heap.size _ _ rfl rfl p15 i6 rfl (by simp [Value.oneCell']) ?_
      intro y9 b15 u9
      refine hK _ _ (fun h => absurd (by decide) h) ?_
      try simp only [List.getElem_toArray, List.getElem_cons_succ, List.getElem_cons_zero, Act.put, List.setIfInBounds_toArray, List.set_cons_zero, List.set_cons_succ]
      refine wpAnyZ_takeF 10 (.slice xa vn xc) rfl (by kernel_rfl) (fun _ _ _ h => hP _ _ _ _ (by rfl) h) rfl (by intro wz; go_simp) ?_
      try simp only [List.getElem_toArray, List.getElem_cons_succ, List.getElem_cons_zero, Act.put, List.setIfInBounds_toArray, List.set_cons_zero, List.set_cons_succ]
      refine wpAnyZ_doneB (by kernel_rfl) ?_ _
      have b14 := b14.keep u9 (fun e => ne45 (Option.some.inj e))
      have hQ8 := hQ.kept2 u8 (fun h0 b off e e2 => by have := hqb h0 b off e; have e2 := Option.some.inj e2; omega)
      have hQ9 := hQ8.kept2 u9 (fun h0 b off e e2 => by have := hqb h0 b off e; have e2 := Option.some.inj e2; omega)
      have hO8 : OwVg y8 wa.heap.size A2 D := ⟨hO.b.kept u8 (.inr (hO.b.ne_box p14 (by decide))), hO.p.kept u8 (.inr (hO.p.ne_box p14 (by decide))), hO.t.kept u8 (.inr (hO.t.ne_box p14 (by decide))), hO.ne⟩
      have hO9 : OwVg y9 wa.heap.size A2 D := ⟨hO8.b.kept u9 (.inr (hO8.b.ne_box p15 (by decide))), hO8.p.kept u9 (.inr (hO8.p.ne_box p15 (by decide))), hO8.t.kept u9 (.inr (hO8.t.ne_box p15 (by decide))), hO.ne⟩
      have hC8 := hC.kept u8 (.inr (hC.ne_box p14 (by decide)))
      have hC9 := hC8.kept u9 (.inr (hC8.ne_box p15 (by decide)))
      have GR : wa.grownBy y9 none := grown_far (grown_far SS u8 (fun q e => by have e := Option.some.inj e; omega)) u9 (fun q e => by have e := Option.some.inj e; omega)
      exact hQq _ _ _ _ _ _ x1.heap.size x0.heap.size q c A2 xa xc y9 b14 b15 hQ9 hO9 hC9.rd GR
end Go.Proofs.Ytnpkmjdlohdieaa
