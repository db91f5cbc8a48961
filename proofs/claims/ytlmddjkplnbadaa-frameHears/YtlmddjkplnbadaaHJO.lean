import Derived.Test.YtlmddjkplnbadaaHHI
import Derived.Test.YtlmddjkplnbadaaNUn4
namespace Go.Proofs.Ytlmddjkplnbadaa
open Go.RowKit
set_option maxRecDepth 100000
set_option linter.unusedVariables false
set_option linter.unusedSimpArgs false

/-- a thing is written into its row; its elder bytes may have been written over -/
theorem OwT.put {t : TypeId} {k : Nat} {w w8 w9 : World} {lo g n c i : Nat} {ts : List Th} {x x' : Th} {p : Nat → Prop} (h : OwT t k w lo (some ⟨g, 0, none⟩) n c ts) (ht : 5 ≠ t) (hi : ts[i]? = some x) (F : Fz p w w8) (hp : ∀ b, p b → x.r.v.ownBlock = some b) (ho : w9.ownsRow 0 t k (.slice (some ⟨g, 0, none⟩) n c) n (flT (ts.set i x'))) (u : w8.grownBy w9 (some g)) (hs : x'.cs.length = k)
    (hq : Ans w8 lo x'.r.a x'.r.n x'.r.c x'.r.D) (hgq : ∃ cs, BxS w8 g t cs) (hap : ∀ j y, j ≠ i → ts[j]? = some y → ∀ b, y.r.v.ownBlock = some b → x'.r.v.ownBlock ≠ some b) : OwT t k w9 lo (some ⟨g, 0, none⟩) n c (ts.set i x') := by
  have hl := h.len
  have hpw := List.pairwise_iff_getElem.1 h.apart
  have hil := (List.getElem?_eq_some_iff.1 hi).1
  have hix : ts[i] = x := (List.getElem?_eq_some_iff.1 hi).2
  obtain ⟨cs, hb⟩ := hgq
  have hk : ∀ r : Rw, Ans w8 lo r.a r.n r.c r.D → Ans w9 lo r.a r.n r.c r.D := fun r hr => hr.kept u (by
    cases e : (Value.slice r.a r.n r.c).ownBlock with
    | none => exact .inl rfl
    | some y => exact .inr (fun e2 => by rw [e2] at e; exact hr.apart hb ht e))
  have hoth : ∀ j y, j ≠ i → ts[j]? = some y → Ans w8 lo y.r.a y.r.n y.r.c y.r.D := fun j y hj hy => (h.each y (List.mem_of_getElem? hy)).fz F (fun b e hpb => by
    have e1 := hp b hpb
    have hjl := (List.getElem?_eq_some_iff.1 hy).1
    have hjy : ts[j] = y := (List.getElem?_eq_some_iff.1 hy).2
    rcases Nat.lt_or_ge j i with hlt | hge
    · have := hpw j i hjl hil hlt b
      rw [hjy, hix] at this
      exact this e e1
    · have := hpw i j hil hjl (by omega) b
      rw [hjy, hix] at this
      exact this e1 e)
  refine ⟨ho, by rw [List.length_set]; exact hl, fun y hy => ?_, h.new, fun y hy => ?_, List.pairwise_iff_getElem.2 (fun q j hkl hjl hkj b hx e => ?_)⟩
  · rcases List.mem_or_eq_of_mem_set hy with hy | rfl
    · exact h.sz y hy
    · exact hs
  · obtain ⟨j, hj, rfl⟩ := List.mem_iff_getElem.1 hy
    rw [List.length_set] at hj
    by_cases hji : j = i
    · subst hji; rw [List.getElem_set_self]; exact hk _ hq
    · rw [List.getElem_set_ne (fun e => hji e.symm)]; exact hk _ (hoth j _ hji (List.getElem?_eq_getElem hj))
  · have hkl' := hkl
    have hjl' := hjl
    rw [List.length_set] at hkl' hjl'
    by_cases hki : q = i
    · subst hki
      rw [List.getElem_set_self] at hx
      rw [List.getElem_set_ne (by omega)] at e
      exact hap j _ (by omega) (List.getElem?_eq_getElem hjl') b e hx
    · rw [List.getElem_set_ne (fun e => hki e.symm)] at hx
      by_cases hji : j = i
      · subst hji
        rw [List.getElem_set_self] at e
        exact hap q _ hki (List.getElem?_eq_getElem hkl') b hx e
      · rw [List.getElem_set_ne (fun e => hji e.symm)] at e
        exact hpw q j hkl' hjl' hkj b hx e
theorem OwT.rowAt {t : TypeId} {k : Nat} {w w8 : World} {p : Nat → Prop} {lo g n c : Nat} {ts : List Th} (h : OwT t k w lo (some ⟨g, 0, none⟩) n c ts) (F : Fz p w w8) (hp : ¬ p g) : w8.ownsRow 0 t k (.slice (some ⟨g, 0, none⟩) n c) n (flT ts) ∧ ∃ cs, BxS w8 g t cs := by
  refine ⟨⟨h.own.1, ?_⟩, ?_⟩
  · rcases h.own.2 with h1 | ⟨g', cap', cur, h1, h2, h3, h4⟩
    · exact .inl h1
    · refine .inr ⟨g', cap', cur, h1, h2, ?_, h4⟩
      have e : g' = g := by simp only [Value.slice.injEq, Option.some.injEq, Addr.mk.injEq] at h1; exact h1.1.1.symm
      subst e
      rw [F.block g' (Array.getElem?_eq_some_iff.1 h3).1 hp]
      exact h3
  · obtain ⟨cs, hb⟩ := h.row
    exact ⟨cs, (F.block g hb.lt hp).trans hb⟩
theorem dcE_cases (B : List Nat) : dcE B = 0 ∨ dcE B = 7 ∨ dcE B = 8 := by
  unfold dcE
  split
  · exact .inr (.inl rfl)
  · split
    · exact .inr (.inr rfl)
    · split
      · exact .inr (.inl rfl)
      · exact .inl rfl

set_option maxHeartbeats 32000000 in
theorem rh_t40 {u0 u1 u3 u5 u6 u7 u8 u10 u12 u15 u17 u19 u20 u21 u22 u23 u24 u25 u26 u27 u28 u29 u30 u31 u32 u33 u34 u35 u36 u37 u38 u39 u40 u41 u42 u43 u44 u45 u46 u47 u48 u49 u50 u51 u52 u53 u54 u55 u56 u57 u58 u59 u60 u61 u62 u63 u64 u65 u66 u67 u68 u69 u70 u71 u72 u73 u74 u75 u76 u77 u78 u79 u80 u81 u82 u83 u84 u85 u86 u87 u88 u89 u90 u91 u92 u93 u94 u95 u96 u97 u98 u99 u100 u101 u102 u103 u104 u105 u106 u107 u108 u109 u110 u111 u112 u113 u114 u115 u116 u117 u118 u119 u120 u121 u122 u123 u124 u125 u126 u127 u128 u129 u130 u131 u132 u133 u134 u135 u136 u137 u138 u139 u140 u141 u142 u143 u144 u145 u146 u147 u148 u149 u150 u151 u152 u153 u154 u155 u156 u157 u158 u159 u160 u161 u162 u163 u164 u165 u166 u167 u168 u169 u170 u171 u172 u173 u174 u175 : Value} (w wb w1 : World) (lo g9 g14 gq cq : Nat) (cr sz ma lost nx : Int) (st hc hh hm ho hf : Nat) (es : List Er) (Es : List Ed) (e : Er) (xa : Option Addr) (xn xc : Nat) (b2 : BxS w1 w.heap.size 43 #[.int .i64 cr, .int .i64 sz, .int .i64 ma, .slice (some ⟨gq, 0, none⟩) 7 cq]) (b4 : BxS w1 (w.heap.size + 1) 43 #[.int .i64 0, .int .i64 0, .int .i64 0, .slice none 0 0]) (b9 : BxS w1 g9 28 #[.int .i64 (hc : Int), .int .i64 (hh : Int), .int .i64 (hm : Int), .int .i64 (ho : Int), .int .i64 (hf : Int)]) (b14 : BxS w1 g14 68 #[.int .i64 nx, .slice xa xn xc]) (hL : OwL wb lo (some ⟨gq, 0, none⟩) 7 cq es Es) (hat : es[hh]? = some e) (hhh : hh < 7) (F : Fz (fun x => e.r.v.ownBlock = some x) wb w1) (hlo : w.heap.size + 2 ≤ lo) (hg9 : w.heap.size + 2 ≤ g9) (hg14 : wb.heap.size ≤ g14) (hwb : w.heap.size + 2 ≤ wb.heap.size) (G1 : w.grownBy w1 none) (ra : Option Addr) (rn rc : Nat) (L : List Nat) (pa : Option Addr) (pn pc plo : Nat) (ps : List Pk) (hR : Rd w1 ra rn rc L) (hrn : rn ≤ 100000) (hH : OwT 66 7 w1 plo pa pn pc (ps.map (Pk.he (hh : Int)))) (hplo : wb.heap.size ≤ plo) (hg14p : g14 < plo) (r0 r1 r2 ch : Int) (V : List Ed) (Ps : List Pd) (E : Nat) (e0 : cr = r0) (e1 : sz = r1) (e2 : ma = r2) (eE : 0 = E) (ech : (hh : Int) = ch) (eV : Es.set hh ⟨nx, L⟩ = V) (eP : ps.map Pk.d = Ps) :
    Code.wp Try.prog (tailR 40 (Try.f35.body.getD .skip)) (bodyPost Try.prog Try.f35 (fun r w' => ∃ (a' : Option Addr) (n' c' : Nat) (es' : List Er) (pa : Option Addr) (pn pc : Nat) (ps : List Pk), r = .returned (.tuple #[.agg #[.int .i64 r0, .int .i64 r1, .int .i64 r2, .slice a' n' c'], .slice pa pn pc, .int .i64 lost, .int .i64 (st : Int), .int .i64 (E : Int)]) ∧ OwL w' w.heap.size a' n' c' es' V ∧ OwT 66 7 w' w.heap.size pa pn pc (ps.map (Pk.he ch)) ∧ ps.map Pk.d = Ps ∧ (∀ x, Tbl (.slice pa pn pc) (ps.map (Pk.he ch)) x → ¬ Tbl (.slice a' n' c') (es'.map Er.th) x) ∧ w.grownBy w' none)) (Act.mk (List.toArray (u0 :: u1 :: (.pointer (some ⟨w.heap.size, 0, none⟩)) :: u3 :: (.pointer (some ⟨w.heap.size + 1, 0, none⟩)) :: u5 :: u6 :: u7 :: u8 :: (.pointer (some ⟨g9, 0, none⟩)) :: u10 :: (.int .i64 (st : Int)) :: u12 :: (.int .i64 lost) :: (.pointer (some ⟨g14, 0, none⟩)) :: u15 :: (.slice ra rn rc) :: u17 :: (.slice pa pn pc) :: u19 :: u20 :: u21 :: u22 :: u23 :: u24 :: u25 :: u26 :: u27 :: u28 :: u29 :: u30 :: u31 :: u32 :: u33 :: u34 :: u35 :: u36 :: u37 :: u38 :: u39 :: u40 :: u41 :: u42 :: u43 :: u44 :: u45 :: u46 :: u47 :: u48 :: u49 :: u50 :: u51 :: u52 :: u53 :: u54 :: u55 :: u56 :: u57 :: u58 :: u59 :: u60 :: u61 :: u62 :: u63 :: u64 :: u65 :: u66 :: u67 :: u68 :: u69 :: u70 :: u71 :: u72 :: u73 :: u74 :: u75 :: u76 :: u77 :: u78 :: u79 :: u80 :: u81 :: u82 :: u83 :: u84 :: u85 :: u86 :: u87 :: u88 :: u89 :: u90 :: u91 :: u92 :: u93 :: u94 :: u95 :: u96 :: u97 :: u98 :: u99 :: u100 :: u101 :: u102 :: u103 :: u104 :: u105 :: u106 :: u107 :: u108 :: u109 :: u110 :: u111 :: u112 :: u113 :: u114 :: u115 :: u116 :: u117 :: u118 :: u119 :: u120 :: u121 :: u122 :: u123 :: u124 :: u125 :: u126 :: u127 :: u128 :: u129 :: u130 :: u131 :: u132 :: u133 :: u134 :: u135 :: u136 :: u137 :: u138 :: u139 :: u140 :: u141 :: u142 :: u143 :: u144 :: u145 :: u146 :: u147 :: u148 :: u149 :: u150 :: u151 :: u152 :: u153 :: u154 :: u155 :: u156 :: u157 :: u158 :: u159 :: u160 :: u161 :: u162 :: u163 :: u164 :: u165 :: u166 :: u167 :: u168 :: u169 :: u170 :: u171 :: u172 :: u173 :: u174 :: u175 :: [])) []) w1 := by
  conv => enter [2]; whnf
  subst e0 e1 e2 eE ech
  have HEV : Hid _ := eV
  have HEP : Hid _ := eP
  clear eV eP
  have i4 := Try.info_li
  have i2 := Try.info_ea2
  have hle := hL.lenE
  have hem : e.th ∈ es.map Er.th := List.mem_map_of_mem (List.mem_of_getElem? hat)
  have hthi : (es.map Er.th)[hh]? = some e.th := by rw [List.getElem?_map, hat]; rfl
  have hgql := (hL.o.hi (x := gq) (.inl rfl))
  have hnp : ¬ e.r.v.ownBlock = some gq := fun e2 => by
    obtain ⟨cs, hb⟩ := hL.o.row
    exact (hL.o.each _ hem).apart hb (by decide) e2
  refine wp_seq_k fun K1 hK1 => ?_
  have HK1 : Hid _ := hK1
  clear hK1
  have s0 : True := trivial
  obtain ⟨q0, q1⟩ : w1.cell? ⟨g14, 0, none⟩ = some (.int .i64 nx) ∧ w1.cell? ⟨g14, 1, none⟩ = some (.slice xa xn xc) := ⟨b14.cell 0 (by show 0 < 2; decide), b14.cell 1 (by show 1 < 2; decide)⟩
  go_wp2_with (first
    | (at_builtin; have _t := s0; clear s0; refine wpList_clB _ rfl _ _ rfl rfl ra rn rc L rfl hR (by omega) ?_; intro na nc w2 g2 hA2; have b142 := b14.keep g2 (by simp); have s1 : True := trivial)
    | (have _t := s1; clear s1; refine wpList_stC _ rfl _ _ _ rfl g14 1 68 _ #[.int .i64 nx, .slice na rn nc] (.slice na rn nc) rfl rfl b142 (stc_slb _ _ _ _ _) (by show 1 < 2; decide) rfl ?_; intro w3 b143 u3))
  clear q0 q1
  have zF := F.size
  have z2 := g2.size
  have hA3 : Ans w3 w1.heap.size na rn nc L := hA2.kept u3 (by
    cases hown : (Value.slice na rn nc).ownBlock with
    | none => exact .inl rfl
    | some z => exact .inr (fun e => by rw [e] at hown; exact hA2.apart b142 (by decide) hown))
  have F3 : Fz (fun x => e.r.v.ownBlock = some x) wb w3 := (F.step g2 (fun k e _ => by cases e)).step u3 (fun k e hl => by have e := Option.some.inj e; omega)
  have hH3 := (hH.keep g2).far u3 hg14p
  have n14 : ∀ {g : Nat} {t : TypeId} {cs : Array Value}, BxS w2 g t cs → 68 ≠ t → BxS w3 g t cs := fun b ht => b.keep u3 (fun e => by have e := Option.some.inj e; subst e; exact BxS.apart b142 b ht rfl)
  have b23 := n14 (b2.keep g2 (by simp)) (by decide)
  have b43 := n14 (b4.keep g2 (by simp)) (by decide)
  have b93 := n14 (b9.keep g2 (by simp)) (by decide)
  have G3 := grown_far (grown_trans G1 g2) u3 (fun q e => by have e := Option.some.inj e; omega)
  refine HK1.out _ _ ?_
  clear HK1
  refine wp_seq_k fun K2 hK2 => ?_
  have HK2 : Hid _ := hK2
  clear hK2
  obtain ⟨z0, z1', z2', z3⟩ := BxS.cell4 b23
  obtain ⟨y0, y1, y2, y3, y4⟩ := BxS.cell5 b93
  obtain ⟨hrow, hbq⟩ := hL.o.rowAt F3 hnp
  have hh7 : (hh : Int) < 7 := by omega
  have s0 : True := trivial
  go_wp2_with (first
    | (have _t := s0; clear s0; refine wpList_ldX _ rfl _ (.tmp 14) rfl g14 _ rfl b143 Try.underlying68 i2 ?_; have s1 : True := trivial)
    | (have _t := s1; clear s1; refine wpList_stTh i2 _ rfl _ _ rfl gq hh 7 cq _ (es.map Er.th) (Er.th ⟨nx, ⟨na, rn, nc, L⟩⟩) rfl rfl _ rfl rfl rfl (by intro u hu; simp only [Er.th, List.mem_cons, List.not_mem_nil, or_false] at hu; rcases hu with rfl | rfl <;> rfl) hrow hL.o.sz hL.o.len hhh ?_; intro w4 ho4 u4))
  clear z0 z1' z2' z3 y0 y1 y2 y3 y4
  have hL4 := hL.o.put (x' := Er.th ⟨nx, ⟨na, rn, nc, L⟩⟩) (by decide) hthi F3 (fun b h => h) ho4 u4 rfl (hA3.wide (by omega)) hbq (fun j y hj hy b e e2 => by
    have h1 := (hL.o.each y (List.mem_of_getElem? hy)).ltB e
    have h2 := hA3.new b e2
    omega)
  have hne4 : ∀ {g : Nat}, g ≠ gq → some g ≠ some gq := fun h e => h (Option.some.inj e)
  have nq : ∀ {g : Nat} {t : TypeId} {cs : Array Value}, BxS w3 g t cs → 68 ≠ t → BxS w4 g t cs := fun b ht => b.keep u4 (fun e => by have e := Option.some.inj e; subst e; obtain ⟨cs', hb⟩ := hbq; exact BxS.apart hb b ht rfl)
  have b24 := nq b23 (by decide)
  have b44 := nq b43 (by decide)
  have hH4 := hH3.far u4 (by omega)
  have G4 := grown_far G3 u4 (fun q e => by have e := Option.some.inj e; omega)
  clear b23 b43 b93
  refine HK2.out _ _ ?_
  clear HK2
  refine wp_seq_k fun K3 hK3 => ?_
  have HK3 : Hid _ := hK3
  clear hK3
  have s0 : True := trivial
  go_wp2_with (first
    | (have _t := s0; clear s0; refine wpList_ldX _ rfl _ (.tmp 2) rfl w.heap.size _ rfl b24 Try.underlying43 i4 ?_; have s1 : True := trivial)
    | (have _t := s1; clear s1; refine wpList_stX _ rfl _ (.tmp 4) (.tmp 172) rfl (w.heap.size + 1) _ _ rfl rfl b44 i4 rfl (by simp [Value.oneCell']) ?_; intro w5 b45 u5))
  refine HK3.out _ _ ?_
  clear HK3
  refine wp_ret ?_
  refine bodyPost_ret (results_cell5 rfl _ _ _ ⟨w.heap.size + 1, 0, none⟩ _ (.slice pa pn pc) (.int .i64 lost) (.int .i64 (st : Int)) (.int .i64 0) rfl (BxS.load (t := 43) b45 Try.underlying43 i4) rfl rfl rfl rfl) rfl ?_
  have hV := HEV.out
  have hP := HEP.out
  subst hV hP
  have hL5 : OwL w5 w.heap.size (some ⟨gq, 0, none⟩) 7 cq (es.set hh ⟨nx, ⟨na, rn, nc, L⟩⟩) (Es.set hh ⟨nx, L⟩) := ⟨by rw [List.map_set]; exact (hL4.far u5 (by omega)).wide (by omega), by rw [List.map_set, hL.d]; rfl⟩
  refine ⟨_, _, _, _, pa, pn, pc, ps, rfl, hL5, (hH4.far u5 (by omega)).wide (by omega), rfl, fun x hx ee => ?_, grown_far G4 u5 (fun q e => by have e := Option.some.inj e; omega)⟩
  have h1 := (hH.hi hx)
  rcases ee with ee | ⟨y, hy, ee⟩
  · have ee : gq = x := Option.some.inj ee
    omega
  · rw [List.map_set] at hy
    rcases List.mem_or_eq_of_mem_set hy with hy | rfl
    · have := (hL.o.each y hy).ltB ee
      omega
    · have := hA3.new x ee
      omega

set_option maxHeartbeats 32000000 in
theorem rh_t31 {u0 u1 u3 u5 u6 u7 u8 u10 u12 u15 u17 u18 u19 u20 u21 u22 u23 u24 u25 u26 u27 u28 u29 u30 u31 u32 u33 u34 u35 u36 u37 u38 u39 u40 u41 u42 u43 u44 u45 u46 u47 u48 u49 u50 u51 u52 u53 u54 u55 u56 u57 u58 u59 u60 u61 u62 u63 u64 u65 u66 u67 u68 u69 u70 u71 u72 u73 u74 u75 u76 u77 u78 u79 u80 u81 u82 u83 u84 u85 u86 u87 u88 u89 u90 u91 u92 u93 u94 u95 u96 u97 u98 u99 u100 u101 u102 u103 u104 u105 u106 u107 u108 u109 u110 u111 u112 u113 u114 u115 u116 u117 u118 u119 u120 u121 u122 u123 u124 u125 u126 u127 u128 u129 u130 u131 u132 u133 u134 u135 u136 u137 u138 u139 u140 u141 u142 u143 u144 u145 u146 u147 u148 u149 u150 u151 u152 u153 u154 u155 u156 u157 u158 u159 u160 u161 u162 u163 u164 u165 u166 u167 u168 u169 u170 u171 u172 u173 u174 u175 : Value} (w wb w1 : World) (lo g9 g14 gq cq : Nat) (cr sz ma lost nx : Int) (st hc hh hm ho hf : Nat) (es : List Er) (Es : List Ed) (e : Er) (xa : Option Addr) (xn xc : Nat) (b2 : BxS w1 w.heap.size 43 #[.int .i64 cr, .int .i64 sz, .int .i64 ma, .slice (some ⟨gq, 0, none⟩) 7 cq]) (b4 : BxS w1 (w.heap.size + 1) 43 #[.int .i64 0, .int .i64 0, .int .i64 0, .slice none 0 0]) (b9 : BxS w1 g9 28 #[.int .i64 (hc : Int), .int .i64 (hh : Int), .int .i64 (hm : Int), .int .i64 (ho : Int), .int .i64 (hf : Int)]) (b14 : BxS w1 g14 68 #[.int .i64 nx, .slice xa xn xc]) (hL : OwL wb lo (some ⟨gq, 0, none⟩) 7 cq es Es) (hat : es[hh]? = some e) (hhh : hh < 7) (F : Fz (fun x => e.r.v.ownBlock = some x) wb w1) (hlo : w.heap.size + 2 ≤ lo) (hg9 : w.heap.size + 2 ≤ g9) (hg14 : wb.heap.size ≤ g14) (hwb : w.heap.size + 2 ≤ wb.heap.size) (G1 : w.grownBy w1 none) (ra : Option Addr) (rn rc : Nat) (G : List Nat) (hR : Rd w1 ra rn rc G) (hrn : rn ≤ 100000) (r0 r1 r2 ch : Int) (V : List Ed) (Ps : List Pd) (E : Nat) (e0 : cr = r0) (e1 : sz = r1) (e2 : ma = r2) (eE : 0 = E) (ech : (hh : Int) = ch) (eV : Es.set hh ⟨nx, keL G⟩ = V) (eP : ((spS G.length G).map pdB).filter (fun p => p.ap != 2047) = Ps) :
    Code.wp Try.prog (tailR 31 (Try.f35.body.getD .skip)) (bodyPost Try.prog Try.f35 (fun r w' => ∃ (a' : Option Addr) (n' c' : Nat) (es' : List Er) (pa : Option Addr) (pn pc : Nat) (ps : List Pk), r = .returned (.tuple #[.agg #[.int .i64 r0, .int .i64 r1, .int .i64 r2, .slice a' n' c'], .slice pa pn pc, .int .i64 lost, .int .i64 (st : Int), .int .i64 (E : Int)]) ∧ OwL w' w.heap.size a' n' c' es' V ∧ OwT 66 7 w' w.heap.size pa pn pc (ps.map (Pk.he ch)) ∧ ps.map Pk.d = Ps ∧ (∀ x, Tbl (.slice pa pn pc) (ps.map (Pk.he ch)) x → ¬ Tbl (.slice a' n' c') (es'.map Er.th) x) ∧ w.grownBy w' none)) (Act.mk (List.toArray (u0 :: u1 :: (.pointer (some ⟨w.heap.size, 0, none⟩)) :: u3 :: (.pointer (some ⟨w.heap.size + 1, 0, none⟩)) :: u5 :: u6 :: u7 :: u8 :: (.pointer (some ⟨g9, 0, none⟩)) :: u10 :: (.int .i64 (st : Int)) :: u12 :: (.int .i64 lost) :: (.pointer (some ⟨g14, 0, none⟩)) :: u15 :: (.slice ra rn rc) :: u17 :: u18 :: u19 :: u20 :: u21 :: u22 :: u23 :: u24 :: u25 :: u26 :: u27 :: u28 :: u29 :: u30 :: u31 :: u32 :: u33 :: u34 :: u35 :: u36 :: u37 :: u38 :: u39 :: u40 :: u41 :: u42 :: u43 :: u44 :: u45 :: u46 :: u47 :: u48 :: u49 :: u50 :: u51 :: u52 :: u53 :: u54 :: u55 :: u56 :: u57 :: u58 :: u59 :: u60 :: u61 :: u62 :: u63 :: u64 :: u65 :: u66 :: u67 :: u68 :: u69 :: u70 :: u71 :: u72 :: u73 :: u74 :: u75 :: u76 :: u77 :: u78 :: u79 :: u80 :: u81 :: u82 :: u83 :: u84 :: u85 :: u86 :: u87 :: u88 :: u89 :: u90 :: u91 :: u92 :: u93 :: u94 :: u95 :: u96 :: u97 :: u98 :: u99 :: u100 :: u101 :: u102 :: u103 :: u104 :: u105 :: u106 :: u107 :: u108 :: u109 :: u110 :: u111 :: u112 :: u113 :: u114 :: u115 :: u116 :: u117 :: u118 :: u119 :: u120 :: u121 :: u122 :: u123 :: u124 :: u125 :: u126 :: u127 :: u128 :: u129 :: u130 :: u131 :: u132 :: u133 :: u134 :: u135 :: u136 :: u137 :: u138 :: u139 :: u140 :: u141 :: u142 :: u143 :: u144 :: u145 :: u146 :: u147 :: u148 :: u149 :: u150 :: u151 :: u152 :: u153 :: u154 :: u155 :: u156 :: u157 :: u158 :: u159 :: u160 :: u161 :: u162 :: u163 :: u164 :: u165 :: u166 :: u167 :: u168 :: u169 :: u170 :: u171 :: u172 :: u173 :: u174 :: u175 :: [])) []) w1 := by
  conv => enter [2]; whnf
  have i6 := Try.info_pk
  have HV : Hid (∀ L, keL G = L → Es.set hh ⟨nx, L⟩ = V) := fun L h => by rw [← h]; exact eV
  have HP : Hid _ := eP
  have HA : Hid (cr = r0 ∧ sz = r1 ∧ ma = r2 ∧ 0 = E ∧ (hh : Int) = ch) := ⟨e0, e1, e2, eE, ech⟩
  clear eV eP e0 e1 e2 eE ech
  refine wp_seq_k fun K0 hK0 => ?_
  have HK0 : Hid _ := hK0
  clear hK0
  go_wp2
  refine HK0.out _ _ ?_
  clear HK0
  refine wp_seq_k fun K1 hK1 => ?_
  have HK1 : Hid _ := hK1
  clear hK1
  go_wp2
  go_loopw [16, 18] (fun bv pv wr => ∃ (f : Nat) (a' : Option Addr) (n' c' : Nat) (B' : List Nat) (pa : Option Addr) (pn pc : Nat) (ps : List Pk) (DL : List (List Nat)), bv = .slice a' n' c' ∧ pv = .slice pa pn pc ∧ Rd wr a' n' c' B' ∧ (0 < n' → ∀ g off, a' = some ⟨g, off, none⟩ → g < w1.heap.size) ∧ B'.length ≤ f ∧ pn + n' ≤ rn ∧ Hid (spS G.length G = DL ++ spS f B') ∧ Hid (spR G.length G = spR f B') ∧ OwT 66 7 wr w1.heap.size pa pn pc (ps.map (Pk.he (hh : Int))) ∧ Hid (ps.map Pk.d = (DL.map pdB).filter (fun p => p.ap != 2047)) ∧ w1.grownBy wr none) (fun bv _ _ => slM bv)
  case atStart => exact ⟨G.length, ra, rn, rc, G, none, 0, 0, [], [], rfl, rfl, hR, (fun h0 g off e => by obtain ⟨b, o, e2, hb, _⟩ := hR.at' h0; rw [e] at e2; cases e2; exact hb), Nat.le_refl _, by omega, show _ = _ from rfl, show _ = _ from rfl, OwT.nil _ _ _ _, show _ = _ from rfl, World.grownBy.refl _ _⟩
  case round =>
    obtain ⟨f, a', n', c', B', pa, pn, pc, ps, DL, rfl, rfl, hr, hbl, hf, hpn, HS, HR, hO, HD, hgr⟩ := hrel
    have hl := hr.len
    obtain ⟨e0, e1, e2, eE, ech⟩ := HA.out
    by_cases h00 : n' = 0
    · subst h00
      have e' : B' = [] := List.eq_nil_of_length_eq_zero hl
      subst e'
      have hspR : spR G.length G = [] := by rw [HR.out, (sp_end (B := []) (by decide) f).2]
      have hspS : spS G.length G = DL := by rw [HS.out, (sp_end (B := []) (by decide) f).1, List.append_nil]
      have hke : keL G = [] := by unfold keL; rw [hspR]; rfl
      have hps : ps.map Pk.d = Ps := by rw [HD.out, ← hspS]; exact HP.out
      clear e0 e1 e2 eE ech
      go_wp2
      refine HK1.out _ _ ?_
      clear HK1
      obtain ⟨e0, e1, e2, eE, ech⟩ := HA.out
      exact rh_t40 w wb wr lo g9 g14 gq cq cr sz ma lost nx st _ hh _ _ _ es Es e xa xn xc (b2.keep hgr (by simp)) (b4.keep hgr (by simp)) (b9.keep hgr (by simp)) (b14.keep hgr (by simp)) hL hat hhh (F.step hgr (fun k e _ => by cases e)) hlo hg9 hg14 hwb (grown_trans G1 hgr) a' 0 c' [] pa pn pc w1.heap.size ps hr (by omega) hO F.size b14.lt r0 r1 r2 ch V Ps E e0 e1 e2 eE ech (HV.out _ hke) hps
    · clear e0 e1 e2 eE ech
      have l0 : (0 : Int) < (n' : Int) := by omega
      have d0 : decide ((n' : Int) > 0) = true := decide_eq_true (by omega)
      refine wp_seq_k fun K2 hK2 => ?_
      have HK2 : Hid _ := hK2
      clear hK2
      go_wp2
      refine HK2.out _ _ ?_
      clear HK2
      refine wp_block ?_
      clear l0 d0
      obtain ⟨X, hE⟩ : ∃ X, dcE B' = X := ⟨_, rfl⟩
      have HE : Hid (dcE B' = X) := hE
      have kD := packetOf_any a' n' c' B' wr hr (by omega)
      rw [hE] at kD
      clear hE
      refine wp_seq_k fun K3 hK3 => ?_
      have HK3 : Hid _ := hK3
      clear hK3
      have s0 : True := trivial
      go_wp2_with (first
        | (go_at_call 64; have _t := s0; clear s0; refine kD.mono ?_; rintro e' w2 ⟨da, dn, dc, rfl, hA2, g2⟩; unfold pkV; have bn := BxS.new w2 64 #[.bool false, .bool false, .int .i64 0, .int .i64 0, .int .i64 0, .slice none 0 0]; have gn := World.grownBy_alloc w2 (.cells #[.bool false, .bool false, .int .i64 0, .int .i64 0, .int .i64 0, .slice none 0 0] 64) none; generalize hw3 : w2.alloc (.cells #[.bool false, .bool false, .int .i64 0, .int .i64 0, .int .i64 0, .slice none 0 0] 64) = w3 at bn gn; have s1 : True := trivial)
        | (have _t := s1; clear s1; refine wpList_stX _ rfl _ (.tmp 19) (.tmp 143) rfl w2.heap.size _ _ rfl rfl bn i6 rfl (by simp [Value.oneCell']) ?_; intro w4 b4' u4))
      have l4 : w2.heap.size < w4.heap.size := b4'.lt
      have hne : (Value.slice da dn dc).ownBlock = none ∨ (Value.slice da dn dc).ownBlock ≠ some w2.heap.size := by
        cases e' : (Value.slice da dn dc).ownBlock with
        | none => exact .inl rfl
        | some y => exact .inr (fun e2 => by have := hA2.ltB e'; have e2 := Option.some.inj e2; omega)
      have hA4 := (hA2.keep gn).kept u4 hne
      have Y4 := grown_far (grown_trans g2 gn) u4 (fun q e => by have e := Option.some.inj e; have := g2.size; omega)
      have G4 := grown_trans hgr Y4
      have hO4 := hO.keep Y4
      have hr4 := hr.keep Y4
      have z4 := hgr.size
      clear hw3 bn gn u4 hne
      refine HK3.out _ _ ?_
      clear HK3
      have b94 := b9.keep G4 (by simp)
      rcases dcE_cases B' with h0 | h0 | h0
      · have hX := HE.out
        rw [h0] at hX
        subst hX
        obtain ⟨q1, q2⟩ := dc_k h0
        obtain ⟨f', f1, f2, f3⟩ := sp_go h0 f hf
        obtain ⟨bb, ob, rfl, hbb, _⟩ := hr4.at' (by omega)
        have hbe := hr4.behind (k := dcK B') (by omega)
        have HPd : Hid (Pk.d ⟨dcU B', dcS B', (dcA B' : Nat), (dcP B' : Nat), (dcC B' : Nat), da, dn, dc, dcD B'⟩ = pdB B') := rfl
        have HAP : Hid (((pdB B').ap != 2047) = (((dcA B' : Nat) : Int) != 2047)) := rfl
        have HF2 : Hid _ := f2
        have HF3 : Hid _ := f3
        have hb1 := hbl (by omega) bb ob rfl
        clear f2 f3 h0 kD
        generalize hK : dcK B' = K at *
        clear hK
        refine wp_seq_k fun K4 hK4 => ?_
        have HK4 : Hid _ := hK4
        clear hK4
        go_wp2
        refine HK4.out _ _ ?_
        clear HK4
        refine wp_seq_k fun K5 hK5 => ?_
        have HK5 : Hid _ := hK5
        clear hK5
        go_wp2
        refine HK5.out _ _ ?_
        clear HK5
        have hk1 : (K : Int) ≤ (n' : Int) := by omega
        have hc1 := hr4.le
        have hc2 : (K : Int) ≤ (c' : Int) := by omega
        have tk : ((K : Int)).toNat = K := Int.toNat_natCast K
        have q2c : w4.cell? ⟨w2.heap.size, 2, none⟩ = some (.int .i64 ((dcA B' : Nat) : Int)) := b4'.cell 2 (by show 2 < 6; decide)
        have y1 : w4.cell? ⟨g9, 1, none⟩ = some (.int .i64 (hh : Int)) := b94.cell 1 (by show 1 < 5; decide)
        by_cases hap2 : ((dcA B' : Nat) : Int) = 2047
        · have hb : ((((dcA B' : Nat) : Int) != 2047) : Bool) = false := by simp [hap2]
          have HB0 : Hid _ := hb
          by_cases hcK : c' = K
          · rw [if_pos hcK] at hbe
            subst hcK
            rw [show n' - c' = 0 by omega, Nat.sub_self] at hbe
            clear hap2
            go_wp2
            refine ⟨⟨f', _, _, _, _, pa, pn, pc, ps, DL ++ [B'], rfl, rfl, hbe, (fun h => by omega), f1, by omega, ?_, ?_, hO4, ?_, G4⟩, ?_⟩
            · show _ = _; rw [HS.out, HF2.out, List.append_assoc]; rfl
            · show _ = _; rw [HR.out, HF3.out]
            · show _ = _; rw [List.map_append, List.filter_append, HD.out]; simp [HAP.out, HB0.out]
            · show 0 < n'; omega
          · rw [if_neg hcK] at hbe
            clear hap2
            go_wp2
            refine ⟨⟨f', _, _, _, _, pa, pn, pc, ps, DL ++ [B'], rfl, rfl, hbe, (fun _ g off e' => by cases e'; exact hb1), f1, by omega, ?_, ?_, hO4, ?_, G4⟩, ?_⟩
            · show _ = _; rw [HS.out, HF2.out, List.append_assoc]; rfl
            · show _ = _; rw [HR.out, HF3.out]
            · show _ = _; rw [List.map_append, List.filter_append, HD.out]; simp [HAP.out, HB0.out]
            · show n' - K < n'; omega
        · have hb : ((((dcA B' : Nat) : Int) != 2047) : Bool) = true := by simpa using hap2
          have HB0 : Hid _ := hb
          clear hap2
          refine wp_seq_k fun K6 hK6 => ?_
          have HK6 : Hid _ := hK6
          clear hK6
          have s0 : True := trivial
          go_wp2_with (first
            | (have _t := s0; clear s0; refine wpList_ldX _ rfl _ (.tmp 19) rfl w2.heap.size _ rfl b4' Try.underlying64 i6 ?_; have s1 : True := trivial)
            | (at_builtin; have _t := s1; clear s1; refine wpList_psT 57 66 7 64 _ Try.underlying57 Try.info_he3 rfl (by decide) (by decide) w4 w1.heap.size (Pk.he (hh : Int) ⟨dcU B', dcS B', (dcA B' : Nat), (dcP B' : Nat), (dcC B' : Nat), da, dn, dc, dcD B'⟩) rfl _ _ rfl pa pn pc (ps.map (Pk.he (hh : Int))) rfl hO4 G4.size rfl (by omega) (by unfold maxLen; omega) _ rfl rfl (by intro u hu; simp only [Pk.he, Pk.cells, List.mem_cons, List.not_mem_nil, or_false] at hu; rcases hu with rfl | rfl | rfl | rfl | rfl | rfl | rfl <;> rfl) (hA4.wide z4) (fun y hy b e' => (hO.each y hy).later2 hA4 (Nat.le_refl _) b e') ?_; intro gx cx w5 hO5 u5 hor))
          have hnb : some bb ≠ (Value.slice pa pn pc).ownBlock := fun e' => by have := hO.new bb e'.symm; omega
          have hbe5 := hbe.grown u5 (fun g off e' => by cases e'; exact hnb)
          have G5 := grown_far G4 u5 (fun q e' => hO.new q e')
          refine HK6.out _ _ ?_
          clear HK6
          by_cases hcK : c' = K
          · rw [if_pos hcK] at hbe5
            subst hcK
            rw [show n' - c' = 0 by omega, Nat.sub_self] at hbe5
            go_wp2
            refine ⟨⟨f', _, _, _, _, _, _, _, ps ++ [⟨dcU B', dcS B', (dcA B' : Nat), (dcP B' : Nat), (dcC B' : Nat), da, dn, dc, dcD B'⟩], DL ++ [B'], rfl, rfl, hbe5, (fun h => by omega), f1, by omega, ?_, ?_, ?_, ?_, G5⟩, ?_⟩
            · show _ = _; rw [HS.out, HF2.out, List.append_assoc]; rfl
            · show _ = _; rw [HR.out, HF3.out]
            · rw [List.map_append]; exact hO5
            · show _ = _; rw [List.map_append, List.map_append, List.filter_append, HD.out]; simp [HAP.out, HB0.out]; exact HPd.out
            · show 0 < n'; omega
          · rw [if_neg hcK] at hbe5
            go_wp2
            refine ⟨⟨f', _, _, _, _, _, _, _, ps ++ [⟨dcU B', dcS B', (dcA B' : Nat), (dcP B' : Nat), (dcC B' : Nat), da, dn, dc, dcD B'⟩], DL ++ [B'], rfl, rfl, hbe5, (fun _ g off e' => by cases e'; exact hb1), f1, by omega, ?_, ?_, ?_, ?_, G5⟩, ?_⟩
            · show _ = _; rw [HS.out, HF2.out, List.append_assoc]; rfl
            · show _ = _; rw [HR.out, HF3.out]
            · rw [List.map_append]; exact hO5
            · show _ = _; rw [List.map_append, List.map_append, List.filter_append, HD.out]; simp [HAP.out, HB0.out]; exact HPd.out
            · show n' - K < n'; omega
      · have hX := HE.out
        rw [h0] at hX
        subst hX
        have hspR : spR G.length G = B' := by rw [HR.out, (sp_end (by rw [h0]; decide) f).2]
        have hspS : spS G.length G = DL := by rw [HS.out, (sp_end (by rw [h0]; decide) f).1, List.append_nil]
        have hke : keL G = B' := by unfold keL; rw [hspR, h0]; rfl
        have hps : ps.map Pk.d = Ps := by rw [HD.out, ← hspS]; exact HP.out
        go_wp2
        try simp only [Exit.inBlock, Exit.then]
        refine HK1.out _ _ ?_
        clear HK1
        obtain ⟨e0, e1, e2, eE, ech⟩ := HA.out
        exact rh_t40 w wb w4 lo g9 g14 gq cq cr sz ma lost nx st _ hh _ _ _ es Es e xa xn xc (b2.keep G4 (by simp)) (b4.keep G4 (by simp)) (b9.keep G4 (by simp)) (b14.keep G4 (by simp)) hL hat hhh (F.step G4 (fun k e _ => by cases e)) hlo hg9 hg14 hwb (grown_trans G1 G4) a' n' c' B' pa pn pc w1.heap.size ps hr4 (by omega) hO4 F.size b14.lt r0 r1 r2 ch V Ps E e0 e1 e2 eE ech (HV.out _ hke) hps
      · have hX := HE.out
        rw [h0] at hX
        subst hX
        have hspR : spR G.length G = B' := by rw [HR.out, (sp_end (by rw [h0]; decide) f).2]
        have hspS : spS G.length G = DL := by rw [HS.out, (sp_end (by rw [h0]; decide) f).1, List.append_nil]
        have hke : keL G = [] := by unfold keL; rw [hspR, h0]; rfl
        have hps : ps.map Pk.d = Ps := by rw [HD.out, ← hspS]; exact HP.out
        go_wp2
        try simp only [Exit.inBlock, Exit.then]
        refine HK1.out _ _ ?_
        clear HK1
        obtain ⟨e0, e1, e2, eE, ech⟩ := HA.out
        exact rh_t40 w wb w4 lo g9 g14 gq cq cr sz ma lost nx st _ hh _ _ _ es Es e xa xn xc (b2.keep G4 (by simp)) (b4.keep G4 (by simp)) (b9.keep G4 (by simp)) (b14.keep G4 (by simp)) hL hat hhh (F.step G4 (fun k e _ => by cases e)) hlo hg9 hg14 hwb (grown_trans G1 G4) none 0 0 [] pa pn pc w1.heap.size ps (ans_nil w4 0).rd (by omega) hO4 F.size b14.lt r0 r1 r2 ch V Ps E e0 e1 e2 eE ech (HV.out _ hke) hps

set_option maxHeartbeats 32000000 in
theorem rh_t23 {u0 u1 u3 u5 u6 u7 u8 u12 u17 u18 u19 u20 u21 u22 u23 u24 u25 u26 u27 u28 u29 u30 u31 u32 u33 u34 u35 u36 u37 u38 u39 u40 u41 u42 u43 u44 u45 u46 u47 u48 u49 u50 u51 u52 u53 u54 u55 u56 u57 u58 u59 u60 u61 u62 u63 u64 u65 u66 u67 u68 u69 u70 u71 u72 u73 u74 u75 u76 u77 u78 u79 u80 u81 u82 u83 u84 u85 u86 u87 u88 u89 u90 u91 u92 u93 u94 u95 u96 u97 u98 u99 u100 u101 u102 u103 u104 u105 u106 u107 u108 u109 u110 u111 u112 u113 u114 u115 u116 u117 u118 u119 u120 u121 u122 u123 u124 u125 u126 u127 u128 u129 u130 u131 u132 u133 u134 u135 u136 u137 u138 u139 u140 u141 u142 u143 u144 u145 u146 u147 u148 u149 u150 u151 u152 u153 u154 u155 u156 u157 u158 u159 u160 u161 u162 u163 u164 u165 u166 u167 u168 u169 u170 u171 u172 u173 u174 u175 : Value} (w wb w1 : World) (lo g9 g14 gq cq : Nat) (cr sz ma lost nx : Int) (st hc hh hm ho hf : Nat) (es : List Er) (Es : List Ed) (e : Er) (xa : Option Addr) (xn xc : Nat) (b2 : BxS w1 w.heap.size 43 #[.int .i64 cr, .int .i64 sz, .int .i64 ma, .slice (some ⟨gq, 0, none⟩) 7 cq]) (b4 : BxS w1 (w.heap.size + 1) 43 #[.int .i64 0, .int .i64 0, .int .i64 0, .slice none 0 0]) (b9 : BxS w1 g9 28 #[.int .i64 (hc : Int), .int .i64 (hh : Int), .int .i64 (hm : Int), .int .i64 (ho : Int), .int .i64 (hf : Int)]) (b14 : BxS w1 g14 68 #[.int .i64 nx, .slice xa xn xc]) (hL : OwL wb lo (some ⟨gq, 0, none⟩) 7 cq es Es) (hat : es[hh]? = some e) (hhh : hh < 7) (F : Fz (fun x => e.r.v.ownBlock = some x) wb w1) (hlo : w.heap.size + 2 ≤ lo) (hg9 : w.heap.size + 2 ≤ g9) (hg14 : wb.heap.size ≤ g14) (hwb : w.heap.size + 2 ≤ wb.heap.size) (G1 : w.grownBy w1 none) (da : Option Addr) (dm dc lod : Nat) (D : List Nat) (hDA : Ans w1 lod da dm dc D) (hdm : 1 ≤ dm ∧ dm ≤ 2036) (hhf : hf ≤ 2047) (sa : Option Addr) (sn sc : Nat) (R : List Nat) (hS : Ans w1 lo sa sn sc R) (hSb : ∀ b, (Value.slice sa sn sc).ownBlock = some b → e.r.v.ownBlock = some b) (hsn : sn ≤ 65541) (hlo1 : lo ≤ w1.heap.size) (G : List Nat) (hG : G = goL R D hf) (r0 r1 r2 ch : Int) (V : List Ed) (Ps : List Pd) (E : Nat) (e0 : cr = r0) (e1 : sz = r1) (e2 : ma = r2) (eE : 0 = E) (ech : (hh : Int) = ch) (eV : Es.set hh ⟨nx, keL G⟩ = V) (eP : ((spS G.length G).map pdB).filter (fun p => p.ap != 2047) = Ps) :
    Code.wp Try.prog (tailR 23 (Try.f35.body.getD .skip)) (bodyPost Try.prog Try.f35 (fun r w' => ∃ (a' : Option Addr) (n' c' : Nat) (es' : List Er) (pa : Option Addr) (pn pc : Nat) (ps : List Pk), r = .returned (.tuple #[.agg #[.int .i64 r0, .int .i64 r1, .int .i64 r2, .slice a' n' c'], .slice pa pn pc, .int .i64 lost, .int .i64 (st : Int), .int .i64 (E : Int)]) ∧ OwL w' w.heap.size a' n' c' es' V ∧ OwT 66 7 w' w.heap.size pa pn pc (ps.map (Pk.he ch)) ∧ ps.map Pk.d = Ps ∧ (∀ x, Tbl (.slice pa pn pc) (ps.map (Pk.he ch)) x → ¬ Tbl (.slice a' n' c') (es'.map Er.th) x) ∧ w.grownBy w' none)) (Act.mk (List.toArray (u0 :: u1 :: (.pointer (some ⟨w.heap.size, 0, none⟩)) :: u3 :: (.pointer (some ⟨w.heap.size + 1, 0, none⟩)) :: u5 :: u6 :: u7 :: u8 :: (.pointer (some ⟨g9, 0, none⟩)) :: (.slice da dm dc) :: (.int .i64 (st : Int)) :: u12 :: (.int .i64 lost) :: (.pointer (some ⟨g14, 0, none⟩)) :: (.slice sa sn sc) :: (.slice none 0 0) :: u17 :: u18 :: u19 :: u20 :: u21 :: u22 :: u23 :: u24 :: u25 :: u26 :: u27 :: u28 :: u29 :: u30 :: u31 :: u32 :: u33 :: u34 :: u35 :: u36 :: u37 :: u38 :: u39 :: u40 :: u41 :: u42 :: u43 :: u44 :: u45 :: u46 :: u47 :: u48 :: u49 :: u50 :: u51 :: u52 :: u53 :: u54 :: u55 :: u56 :: u57 :: u58 :: u59 :: u60 :: u61 :: u62 :: u63 :: u64 :: u65 :: u66 :: u67 :: u68 :: u69 :: u70 :: u71 :: u72 :: u73 :: u74 :: u75 :: u76 :: u77 :: u78 :: u79 :: u80 :: u81 :: u82 :: u83 :: u84 :: u85 :: u86 :: u87 :: u88 :: u89 :: u90 :: u91 :: u92 :: u93 :: u94 :: u95 :: u96 :: u97 :: u98 :: u99 :: u100 :: u101 :: u102 :: u103 :: u104 :: u105 :: u106 :: u107 :: u108 :: u109 :: u110 :: u111 :: u112 :: u113 :: u114 :: u115 :: u116 :: u117 :: u118 :: u119 :: u120 :: u121 :: u122 :: u123 :: u124 :: u125 :: u126 :: u127 :: u128 :: u129 :: u130 :: u131 :: u132 :: u133 :: u134 :: u135 :: u136 :: u137 :: u138 :: u139 :: u140 :: u141 :: u142 :: u143 :: u144 :: u145 :: u146 :: u147 :: u148 :: u149 :: u150 :: u151 :: u152 :: u153 :: u154 :: u155 :: u156 :: u157 :: u158 :: u159 :: u160 :: u161 :: u162 :: u163 :: u164 :: u165 :: u166 :: u167 :: u168 :: u169 :: u170 :: u171 :: u172 :: u173 :: u174 :: u175 :: [])) []) w1 := by
  conv => enter [2]; whnf
  have HEV : Hid _ := eV
  have HEP : Hid _ := eP
  have HA : Hid (cr = r0 ∧ sz = r1 ∧ ma = r2 ∧ 0 = E ∧ (hh : Int) = ch) := ⟨e0, e1, e2, eE, ech⟩
  clear eV eP e0 e1 e2 eE ech
  have hlR := hS.len
  have hlD := hDA.len
  have HG : Hid (G = if hf = 2047 then (if sn = 0 then [] else R ++ D) else if dm ≤ hf then [] else if 0 < sn ∧ whB (R ++ D.take hf) = true then R ++ D else D.drop hf) := by show _ = _; rw [hG]; unfold goL; rw [hlR, hlD]
  clear hG
  have y4 : w1.cell? ⟨g9, 4, none⟩ = some (.int .i64 (hf : Int)) := b9.cell 4 (by show 4 < 5; decide)
  have hoff : ∀ {g : Nat} {t : TypeId} {cs : Array Value}, BxS w1 g t cs → 5 ≠ t → some g ≠ (Value.slice sa sn sc).ownBlock := fun b ht e' => hS.apart b ht e'.symm
  refine wp_seq_k fun K1 hK1 => ?_
  have HK1 : Hid _ := hK1
  clear hK1
  by_cases h1 : hf = 2047
  · have hg := HG.out
    rw [if_pos h1] at hg
    have b1 : ((((hf : Nat) : Int) == 2047) : Bool) = true := by subst h1; rfl
    clear h1
    by_cases h2 : sn = 0
    · rw [if_pos h2] at hg
      have HGn : Hid _ := hg
      have l4 : ¬ (0 : Int) < (sn : Int) := by omega
      have d5 : decide (((sn : Nat) : Int) > 0) = false := decide_eq_false (by omega)
      have l5 : ¬ 0 < sn := by omega
      clear hg
      go_wp2
      refine HK1.out _ _ ?_
      clear HK1
      obtain ⟨e0, e1, e2, eE, ech⟩ := HA.out
      exact rh_t31 w wb w1 lo g9 g14 gq cq cr sz ma lost nx st hc hh hm ho hf es Es e xa xn xc b2 b4 b9 b14 hL hat hhh F hlo hg9 hg14 hwb G1 none 0 0 [] (ans_nil w1 0).rd (by omega) r0 r1 r2 ch V Ps E e0 e1 e2 eE ech (by rw [← HGn.out]; exact HEV.out) (by rw [← HGn.out]; exact HEP.out)
    · rw [if_neg h2] at hg
      have HGn : Hid _ := hg
      have l4 : (0 : Int) < (sn : Int) := by omega
      have d5 : decide (((sn : Nat) : Int) > 0) = true := decide_eq_true (by omega)
      have l5 : 0 < sn := by omega
      clear hg h2
      have s0 : True := trivial
      go_wp2_with (at_builtin; have _t := s0; clear s0; refine wpList_joinZ rfl _ _ rfl sa sn sc lo R rfl hS hlo1 da dm dc D rfl hDA.rd (by omega) ?_; intro a2 c2 w2 hA2 u2)
      refine HK1.out _ _ ?_
      clear HK1
      obtain ⟨e0, e1, e2, eE, ech⟩ := HA.out
      exact rh_t31 w wb w2 lo g9 g14 gq cq cr sz ma lost nx st hc hh hm ho hf es Es e xa xn xc (b2.keep u2 (hoff b2 (by decide))) (b4.keep u2 (hoff b4 (by decide))) (b9.keep u2 (hoff b9 (by decide))) (b14.keep u2 (hoff b14 (by decide))) hL hat hhh (F.step u2 (fun k e' _ => hSb k e')) hlo hg9 hg14 hwb (grown_far G1 u2 (fun q e' => by have := hS.new q e'; omega)) a2 (sn + dm) c2 (R ++ D) hA2.rd (by omega) r0 r1 r2 ch V Ps E e0 e1 e2 eE ech (by rw [← HGn.out]; exact HEV.out) (by rw [← HGn.out]; exact HEP.out)
  · have hg := HG.out
    rw [if_neg h1] at hg
    have b1 : ((((hf : Nat) : Int) == 2047) : Bool) = false := by
      have : ¬ ((hf : Int) = 2047) := by omega
      simpa using this
    clear h1
    by_cases h3 : dm ≤ hf
    · rw [if_pos h3] at hg
      have HGn : Hid _ := hg
      have d3 : decide (((hf : Nat) : Int) < (dm : Int)) = false := decide_eq_false (by omega)
      have l3 : ¬ hf < dm := by omega
      clear hg
      go_wp2
      refine HK1.out _ _ ?_
      clear HK1
      obtain ⟨e0, e1, e2, eE, ech⟩ := HA.out
      exact rh_t31 w wb w1 lo g9 g14 gq cq cr sz ma lost nx st hc hh hm ho hf es Es e xa xn xc b2 b4 b9 b14 hL hat hhh F hlo hg9 hg14 hwb G1 none 0 0 [] (ans_nil w1 0).rd (by omega) r0 r1 r2 ch V Ps E e0 e1 e2 eE ech (by rw [← HGn.out]; exact HEV.out) (by rw [← HGn.out]; exact HEP.out)
    · rw [if_neg h3] at hg
      have HGn : Hid _ := hg
      clear hg
      have l3 : hf < dm := by omega
      have d3 : decide (((hf : Nat) : Int) < (dm : Int)) = true := decide_eq_true (by omega)
      have hD := hDA.rd
      have hmd := hD.le
      have hfm : (hf : Int) ≤ (dm : Int) := by omega
      have hfd : (hf : Int) ≤ (dc : Int) := by omega
      have tf : ((hf : Int)).toNat = hf := Int.toNat_natCast hf
      obtain ⟨db, dob, rfl, hdb, _⟩ := hD.at' (by omega)
      have hcut := hD.cut (m := hf) (by omega)
      have hbeh := hD.behind (k := hf) (by omega)
      have hdf : ¬ dc = hf := by omega
      rw [if_neg hdf] at hbeh
      clear h3
      refine wp_seq_k fun K2 hK2 => ?_
      have HK2 : Hid _ := hK2
      clear hK2
      go_wp2
      refine HK2.out _ _ ?_
      clear HK2
      refine wp_cond_false rfl ?_
      refine wp_seq_k fun K3 hK3 => ?_
      have HK3 : Hid _ := hK3
      clear hK3
      go_wp2
      refine HK3.out _ _ ?_
      clear HK3
      refine wp_cond_true rfl ?_
      refine wp_seq_k fun K4 hK4 => ?_
      have HK4 : Hid _ := hK4
      clear hK4
      have s0 : True := trivial
      go_wp2_with (at_builtin; have _t := s0; clear s0; refine wpList_clB _ rfl _ _ rfl rfl _ _ _ _ rfl hbeh (by omega) ?_; intro ra rc w2 g2 hA2)
      have b92 := b9.keep g2 (by simp)
      refine HK4.out _ _ ?_
      clear HK4
      refine wp_seq_k fun K5 hK5 => ?_
      have HK5 : Hid _ := hK5
      clear hK5
      have SS : BxS w2.drew g9 28 #[.int .i64 (hc : Int), .int .i64 (hh : Int), .int .i64 (hm : Int), .int .i64 (ho : Int), .int .i64 (hf : Int)] := b92.keep (grown_drew w2 none) (by simp)
      have Gd := grown_trans g2 (grown_drew w2 none)
      have hSd := hS.keep Gd
      have hcutd := hcut.keep Gd
      have hA2d := hA2.keep (grown_drew w2 none)
      refine wp_regionL (fun wz => BxS wz g9 28 #[.int .i64 (hc : Int), .int .i64 (hh : Int), .int .i64 (hm : Int), .int .i64 (ho : Int), .int .i64 (hf : Int)]) [] #[false, false, false, false, false, false, false, false] rfl (by kernel_rfl) ?_
      refine wpAnyZ_take [] 0 (.slice sa sn sc) rfl (by kernel_rfl) (fun _ _ _ h => h) SS rfl (by intro wz hz; go_simp) ?_
      try simp only [List.getElem_toArray, List.getElem_cons_succ, List.getElem_cons_zero, Act.put, List.setIfInBounds_toArray, List.set_cons_zero, List.set_cons_succ]
      refine wpAnyZ_take [] 2 (.slice (some ⟨db, dob, none⟩) dm dc) rfl (by kernel_rfl) (fun _ _ _ h => h) SS rfl (by intro wz hz; go_simp) ?_
      try simp only [List.getElem_toArray, List.getElem_cons_succ, List.getElem_cons_zero, Act.put, List.setIfInBounds_toArray, List.set_cons_zero, List.set_cons_succ]
      refine wpAnyZ_take [] 3 (.pointer (some ⟨g9, 4, none⟩)) rfl (by kernel_rfl) (fun _ _ _ h => h) SS rfl (by intro wz hz; go_simp) ?_
      try simp only [List.getElem_toArray, List.getElem_cons_succ, List.getElem_cons_zero, Act.put, List.setIfInBounds_toArray, List.set_cons_zero, List.set_cons_succ]
      refine wpAnyZ_take [] 4 (.int .i64 (hf : Int)) rfl (by kernel_rfl) (fun _ _ _ h => h) SS rfl (by intro wz hz; have q4 := hz.cell 4 (by show 4 < 5; decide); go_simp) ?_
      try simp only [List.getElem_toArray, List.getElem_cons_succ, List.getElem_cons_zero, Act.put, List.setIfInBounds_toArray, List.set_cons_zero, List.set_cons_succ]
      refine wpAnyZ_take [] 5 (.slice (some ⟨db, dob, none⟩) hf dc) rfl (by kernel_rfl) (fun _ _ _ h => h) SS rfl (by intro wz hz; go_simp) ?_
      try simp only [List.getElem_toArray, List.getElem_cons_succ, List.getElem_cons_zero, Act.put, List.setIfInBounds_toArray, List.set_cons_zero, List.set_cons_succ]
      generalize w2.drew = w3 at *
      refine wpAnyZ_oneB 1 rfl (by kernel_rfl) (fun KK hKK => ?_)
      refine step_of_list rfl ?_
      refine wpList_clB w3 rfl _ _ rfl rfl sa sn sc R rfl hSd.rd (by omega) ?_
      intro pa pc w4 g4 hA4
      show KK _ _
      have S4 := SS.keep g4 (by simp)
      refine hKK _ _ (fun _ => S4) ?_
      try simp only [List.getElem_toArray, List.getElem_cons_succ, List.getElem_cons_zero, Act.put, List.setIfInBounds_toArray, List.set_cons_zero, List.set_cons_succ]
      refine wpAnyZ_oneB 6 rfl (by kernel_rfl) (fun KK hKK => ?_)
      refine step_of_list rfl ?_
      refine wpList_joinZ rfl _ _ rfl pa sn pc w3.heap.size R rfl hA4 g4.size _ hf dc (D.take hf) rfl (hcutd.keep g4) (by omega) ?_
      intro qa qc w5 hA5 u5
      show KK _ _
      have S5 := S4.keep u5 (fun e' => hA4.apart S4 (by decide) e'.symm)
      refine hKK _ _ (fun _ => S5) ?_
      try simp only [List.getElem_toArray, List.getElem_cons_succ, List.getElem_cons_zero, Act.put, List.setIfInBounds_toArray, List.set_cons_zero, List.set_cons_succ]
      refine wpAnyZ_take [] 7 (.slice qa (sn + hf) qc) rfl (by kernel_rfl) (fun _ _ _ h => h) S5 rfl (by intro wz hz; go_simp) ?_
      try simp only [List.getElem_toArray, List.getElem_cons_succ, List.getElem_cons_zero, Act.put, List.setIfInBounds_toArray, List.set_cons_zero, List.set_cons_succ]
      refine wpAnyZ_doneB (by kernel_rfl) ?_ _
      have Y5 := grown_far (grown_trans Gd g4) u5 (fun q e' => by have := hA4.new q e'; have := Gd.size; omega)
      have hA25 := (hA2d.keep g4).kept u5 (by
        cases hown : (Value.slice ra (dm - hf) rc).ownBlock with
        | none => exact .inl rfl
        | some z => exact .inr (fun e' => by have h1 := hA2d.ltB hown; have h2 := hA4.new z e'.symm; omega))
      refine HK5.out _ _ ?_
      clear HK5
      have kW := wholes_any qa (sn + hf) qc _ w5 hA5.rd (by omega)
      obtain ⟨bv, hbv⟩ : ∃ bv, whB (R ++ D.take hf) = bv := ⟨_, rfl⟩
      rw [hbv] at kW HGn
      have s0 : True := trivial
      by_cases h4 : 0 < sn
      · have l4 : (0 : Int) < (sn : Int) := by omega
        have d5 : decide (((sn : Nat) : Int) > 0) = true := decide_eq_true (by omega)
        cases bv with
        | true =>
          have hg := HGn.out
          rw [if_pos ⟨h4, rfl⟩] at hg
          have HG3 : Hid _ := hg
          clear hg hbv
          go_wp2_with (first
            | (go_at_call 63; have _t := s0; clear s0; refine kW.mono ?_; rintro e' w6 ⟨rfl, g6⟩; have s1 : True := trivial)
            | (at_builtin; have _t := s1; clear s1; refine wpList_joinZ rfl _ _ rfl qa (sn + hf) qc w3.heap.size _ rfl (hA5.keep g6) (by have := g4.size; have := u5.size; have := g6.size; omega) ra (dm - hf) rc _ rfl (hA25.keep g6).rd (by omega) ?_; intro fa fc w7 hA7 u7))
          have Y7 := grown_far (grown_trans Y5 g6) u7 (fun q e' => by have := hA5.new q e'; have := Gd.size; omega)
          rw [List.append_assoc, List.take_append_drop] at hA7
          refine HK1.out _ _ ?_
          clear HK1
          obtain ⟨e0, e1, e2, eE, ech⟩ := HA.out
          exact rh_t31 w wb w7 lo g9 g14 gq cq cr sz ma lost nx st hc hh hm ho hf es Es e xa xn xc (b2.keep Y7 (by simp)) (b4.keep Y7 (by simp)) (b9.keep Y7 (by simp)) (b14.keep Y7 (by simp)) hL hat hhh (F.step Y7 (fun k e' _ => by cases e')) hlo hg9 hg14 hwb (grown_trans G1 Y7) fa (sn + hf + (dm - hf)) fc (R ++ D) hA7.rd (by omega) r0 r1 r2 ch V Ps E e0 e1 e2 eE ech (by rw [← HG3.out]; exact HEV.out) (by rw [← HG3.out]; exact HEP.out)
        | false =>
          have hg := HGn.out
          rw [if_neg (fun e' => by cases e'.2)] at hg
          have HG3 : Hid _ := hg
          clear hg hbv
          go_wp2_with (first
            | (go_at_call 63; have _t := s0; clear s0; refine kW.mono ?_; rintro e' w6 ⟨rfl, g6⟩))
          have Y6 := grown_trans Y5 g6
          refine HK1.out _ _ ?_
          clear HK1
          obtain ⟨e0, e1, e2, eE, ech⟩ := HA.out
          exact rh_t31 w wb w6 lo g9 g14 gq cq cr sz ma lost nx st hc hh hm ho hf es Es e xa xn xc (b2.keep Y6 (by simp)) (b4.keep Y6 (by simp)) (b9.keep Y6 (by simp)) (b14.keep Y6 (by simp)) hL hat hhh (F.step Y6 (fun k e' _ => by cases e')) hlo hg9 hg14 hwb (grown_trans G1 Y6) ra (dm - hf) rc (D.drop hf) (hA25.keep g6).rd (by omega) r0 r1 r2 ch V Ps E e0 e1 e2 eE ech (by rw [← HG3.out]; exact HEV.out) (by rw [← HG3.out]; exact HEP.out)
      · have hg := HGn.out
        rw [if_neg (fun e' => h4 e'.1)] at hg
        have HG3 : Hid _ := hg
        have l4 : ¬ (0 : Int) < (sn : Int) := by omega
        have d5 : decide (((sn : Nat) : Int) > 0) = false := decide_eq_false (by omega)
        clear hg hbv
        go_wp2
        refine HK1.out _ _ ?_
        clear HK1
        obtain ⟨e0, e1, e2, eE, ech⟩ := HA.out
        exact rh_t31 w wb w5 lo g9 g14 gq cq cr sz ma lost nx st hc hh hm ho hf es Es e xa xn xc (b2.keep Y5 (by simp)) (b4.keep Y5 (by simp)) (b9.keep Y5 (by simp)) (b14.keep Y5 (by simp)) hL hat hhh (F.step Y5 (fun k e' _ => by cases e')) hlo hg9 hg14 hwb (grown_trans G1 Y5) ra (dm - hf) rc (D.drop hf) hA25.rd (by omega) r0 r1 r2 ch V Ps E e0 e1 e2 eE ech (by rw [← HG3.out]; exact HEV.out) (by rw [← HG3.out]; exact HEP.out)

set_option maxHeartbeats 32000000 in
theorem rh_t17 {u0 u1 u3 u5 u6 u7 u8 u12 u14 u15 u16 u17 u18 u19 u20 u21 u22 u23 u24 u25 u26 u27 u28 u29 u30 u31 u32 u33 u34 u35 u36 u37 u38 u39 u40 u41 u42 u43 u44 u45 u46 u47 u48 u49 u50 u51 u52 u53 u54 u55 u56 u57 u58 u59 u60 u61 u62 u63 u64 u65 u66 u67 u68 u69 u70 u71 u72 u73 u74 u75 u76 u77 u78 u79 u80 u81 u82 u83 u84 u85 u86 u87 u88 u89 u90 u91 u92 u93 u94 u95 u96 u97 u98 u99 u100 u101 u102 u103 u104 u105 u106 u107 u108 u109 u110 u111 u112 u113 u114 u115 u116 u117 u118 u119 u120 u121 u122 u123 u124 u125 u126 u127 u128 u129 u130 u131 u132 u133 u134 u135 u136 u137 u138 u139 u140 u141 u142 u143 u144 u145 u146 u147 u148 u149 u150 u151 u152 u153 u154 u155 u156 u157 u158 u159 u160 u161 u162 u163 u164 u165 u166 u167 u168 u169 u170 u171 u172 u173 u174 u175 : Value} (w w1 : World) (lo g9 gq cq : Nat) (cr sz ma lost : Int) (st hc hh hm ho hf : Nat) (es : List Er) (Es : List Ed) (da : Option Addr) (dm dc lod : Nat) (D : List Nat) (b2 : BxS w1 w.heap.size 43 #[.int .i64 cr, .int .i64 sz, .int .i64 ma, .slice (some ⟨gq, 0, none⟩) 7 cq]) (b4 : BxS w1 (w.heap.size + 1) 43 #[.int .i64 0, .int .i64 0, .int .i64 0, .slice none 0 0]) (b9 : BxS w1 g9 28 #[.int .i64 (hc : Int), .int .i64 (hh : Int), .int .i64 (hm : Int), .int .i64 (ho : Int), .int .i64 (hf : Int)]) (hL : OwL w1 lo (some ⟨gq, 0, none⟩) 7 cq es Es) (hlo : w.heap.size + 2 ≤ lo) (hg9 : w.heap.size + 2 ≤ g9) (hDA : Ans w1 lod da dm dc D) (hdm : 1 ≤ dm ∧ dm ≤ 2036) (hho : ho ≤ 255) (hhf : hf ≤ 2047) (G1 : w.grownBy w1 none) (hhh : hh < 7) (hEs : ∀ e, e ∈ Es → e.D.length ≤ 65541 ∧ (e.x = -1 → e.D = [])) (G : List Nat) (hG : G = goL (if (Es.getD hh ed0).x = (ho : Int) then (Es.getD hh ed0).D else []) D hf) (r0 r1 r2 ch : Int) (V : List Ed) (Ps : List Pd) (E : Nat) (e0 : cr = r0) (e1 : sz = r1) (e2 : ma = r2) (eE : 0 = E) (ech : (hh : Int) = ch) (eV : Es.set hh ⟨((ho : Int) + 1) % 256, keL G⟩ = V) (eP : ((spS G.length G).map pdB).filter (fun p => p.ap != 2047) = Ps) :
    Code.wp Try.prog (tailR 17 (Try.f35.body.getD .skip)) (bodyPost Try.prog Try.f35 (fun r w' => ∃ (a' : Option Addr) (n' c' : Nat) (es' : List Er) (pa : Option Addr) (pn pc : Nat) (ps : List Pk), r = .returned (.tuple #[.agg #[.int .i64 r0, .int .i64 r1, .int .i64 r2, .slice a' n' c'], .slice pa pn pc, .int .i64 lost, .int .i64 (st : Int), .int .i64 (E : Int)]) ∧ OwL w' w.heap.size a' n' c' es' V ∧ OwT 66 7 w' w.heap.size pa pn pc (ps.map (Pk.he ch)) ∧ ps.map Pk.d = Ps ∧ (∀ x, Tbl (.slice pa pn pc) (ps.map (Pk.he ch)) x → ¬ Tbl (.slice a' n' c') (es'.map Er.th) x) ∧ w.grownBy w' none)) (Act.mk (List.toArray (u0 :: u1 :: (.pointer (some ⟨w.heap.size, 0, none⟩)) :: u3 :: (.pointer (some ⟨w.heap.size + 1, 0, none⟩)) :: u5 :: u6 :: u7 :: u8 :: (.pointer (some ⟨g9, 0, none⟩)) :: (.slice da dm dc) :: (.int .i64 (st : Int)) :: u12 :: (.int .i64 lost) :: u14 :: u15 :: u16 :: u17 :: u18 :: u19 :: u20 :: u21 :: u22 :: u23 :: u24 :: u25 :: u26 :: u27 :: u28 :: u29 :: u30 :: u31 :: u32 :: u33 :: u34 :: u35 :: u36 :: u37 :: u38 :: u39 :: u40 :: u41 :: u42 :: u43 :: u44 :: u45 :: u46 :: u47 :: u48 :: u49 :: u50 :: u51 :: u52 :: u53 :: u54 :: u55 :: u56 :: u57 :: u58 :: u59 :: u60 :: u61 :: u62 :: u63 :: u64 :: u65 :: u66 :: u67 :: u68 :: u69 :: u70 :: u71 :: u72 :: u73 :: u74 :: u75 :: u76 :: u77 :: u78 :: u79 :: u80 :: u81 :: u82 :: u83 :: u84 :: u85 :: u86 :: u87 :: u88 :: u89 :: u90 :: u91 :: u92 :: u93 :: u94 :: u95 :: u96 :: u97 :: u98 :: u99 :: u100 :: u101 :: u102 :: u103 :: u104 :: u105 :: u106 :: u107 :: u108 :: u109 :: u110 :: u111 :: u112 :: u113 :: u114 :: u115 :: u116 :: u117 :: u118 :: u119 :: u120 :: u121 :: u122 :: u123 :: u124 :: u125 :: u126 :: u127 :: u128 :: u129 :: u130 :: u131 :: u132 :: u133 :: u134 :: u135 :: u136 :: u137 :: u138 :: u139 :: u140 :: u141 :: u142 :: u143 :: u144 :: u145 :: u146 :: u147 :: u148 :: u149 :: u150 :: u151 :: u152 :: u153 :: u154 :: u155 :: u156 :: u157 :: u158 :: u159 :: u160 :: u161 :: u162 :: u163 :: u164 :: u165 :: u166 :: u167 :: u168 :: u169 :: u170 :: u171 :: u172 :: u173 :: u174 :: u175 :: [])) []) w1 := by
  conv => enter [2]; whnf
  have HEV : Hid _ := eV
  have HEP : Hid _ := eP
  have HA : Hid (cr = r0 ∧ sz = r1 ∧ ma = r2 ∧ 0 = E ∧ (hh : Int) = ch) := ⟨e0, e1, e2, eE, ech⟩
  clear eV eP e0 e1 e2 eE ech
  have i2 := Try.info_ea2
  obtain ⟨hat, hdt, hmem⟩ := hL.at hhh
  obtain ⟨e, he⟩ : ∃ e, es.getD hh er00 = e := ⟨_, rfl⟩
  rw [he] at hat hdt hmem
  have hEd : Es.getD hh ed0 = e.d := by rw [List.getD_eq_getElem?_getD, hdt]; rfl
  rw [hEd] at hG
  have hA1 : Ans w1 lo e.r.a e.r.n e.r.c e.r.D := hL.o.each _ hmem
  obtain ⟨hD1, hD2⟩ := hEs _ (List.mem_of_getElem? hdt)
  have hD1 : e.r.D.length ≤ 65541 := hD1
  have hD2 : e.x = -1 → e.r.D = [] := hD2
  rw [hA1.len] at hD1
  have HG : Hid (G = goL (if e.x = (ho : Int) then e.r.D else []) D hf) := hG
  have HD2 : Hid _ := hD2
  have HOB : Hid (e.r.v = .slice e.r.a e.r.n e.r.c) := rfl
  clear he hEd hG hdt hD2
  obtain ⟨c0, c1⟩ := hL.cell hat
  obtain ⟨ex, hex⟩ : ∃ ex, e.x = ex := ⟨_, rfl⟩
  rw [hex] at c0 HG HD2
  clear hex
  obtain ⟨era, hera⟩ : ∃ a, e.r.a = a := ⟨_, rfl⟩
  obtain ⟨ern, hern⟩ : ∃ a, e.r.n = a := ⟨_, rfl⟩
  obtain ⟨erc, herc⟩ : ∃ a, e.r.c = a := ⟨_, rfl⟩
  rw [hera, hern, herc] at c1 hA1 HOB
  rw [hern] at hD1
  clear hera hern herc
  have hh7 : (hh : Int) < 7 := by omega
  refine wp_seq_k fun K1 hK1 => ?_
  have HK1 : Hid _ := hK1
  clear hK1
  obtain ⟨z0, z1, z2, z3⟩ := BxS.cell4 b2
  obtain ⟨y0, y1, y2, y3, y4⟩ := BxS.cell5 b9
  have bn := BxS.new w1 68 #[.int .i64 0, .slice none 0 0]
  have gn := World.grownBy_alloc w1 (.cells #[.int .i64 0, .slice none 0 0] 68) none
  have s0 : True := trivial
  go_wp2_with (have _t := s0; clear s0; refine wpList_stX _ rfl _ (.tmp 14) (.tmp 83) rfl w1.heap.size _ _ rfl rfl bn i2 rfl (by simp [Value.oneCell']) ?_; intro w3 b143 u3)
  have Y3 := grown_far gn u3 (fun q e => by have e := Option.some.inj e; omega)
  have b23 := b2.keep Y3 (by simp)
  have b43 := b4.keep Y3 (by simp)
  have b93 := b9.keep Y3 (by simp)
  clear z0 z1 z2 z3 y0 y1 y2 y3 y4 c0 c1 bn gn u3
  refine HK1.out _ _ ?_
  clear HK1
  refine wp_seq_k fun K2 hK2 => ?_
  have HK2 : Hid _ := hK2
  clear hK2
  have q0 : w3.cell? ⟨w1.heap.size, 0, none⟩ = some (.int .i64 ex) := b143.cell 0 (by show 0 < 2; decide)
  have q1 : w3.cell? ⟨w1.heap.size, 1, none⟩ = some (.slice era ern erc) := b143.cell 1 (by show 1 < 2; decide)
  go_wp2
  refine HK2.out _ _ ?_
  clear HK2
  have y3 : w3.cell? ⟨g9, 3, none⟩ = some (.int .i64 (ho : Int)) := b93.cell 3 (by show 3 < 5; decide)
  by_cases hx1 : ex = -1
  · have bx : ((ex != -1) : Bool) = false := by simp [hx1]
    have hg := HG.out
    rw [if_neg (by omega)] at hg
    have hD0 := HD2.out hx1
    rw [hD0] at hA1
    have HGn : Hid _ := hg
    clear hg hx1
    have s0 : True := trivial
    refine wp_seq_k fun K3 hK3 => ?_
    have HK3 : Hid _ := hK3
    clear hK3
    go_wp2
    refine HK3.out _ _ ?_
    clear HK3
    refine wp_seq_k fun K4 hK4 => ?_
    have HK4 : Hid _ := hK4
    clear hK4
    clear q0 q1 y3
    obtain ⟨v0, v1, v2, v3, v4⟩ := BxS.cell5 b93
    have q1 : w3.cell? ⟨w1.heap.size, 0, none⟩ = some (.int .i64 ex) := b143.cell 0 (by show 0 < 2; decide)
    have hq : (((ho : Int) + 1).tmod 256) = ((ho : Int) + 1) % 256 := by rw [Int.tmod_eq_emod_of_nonneg (by omega)]
    go_wp2_with (have _t := s0; clear s0; refine wpList_stC _ rfl _ _ _ rfl w1.heap.size 0 68 _ #[.int .i64 (((ho : Int) + 1) % 256), .slice era ern erc] (.int .i64 (((ho : Int) + 1) % 256)) rfl rfl b143 (stc_int _ _ _) (by show 0 < 2; decide) rfl ?_; intro w4 b144 u4)
    clear v0 v1 v2 v3 v4 q1
    have n4 : ∀ {g : Nat} {t : TypeId} {cs : Array Value}, BxS w3 g t cs → 68 ≠ t → BxS w4 g t cs := fun b ht => b.keep u4 (fun e' => by have e' := Option.some.inj e'; subst e'; exact BxS.apart b143 b ht rfl)
    have b24 := n4 b23 (by decide)
    have b44 := n4 b43 (by decide)
    have b94 := n4 b93 (by decide)
    have Y4 := grown_far Y3 u4 (fun q e' => by have e' := Option.some.inj e'; omega)
    have hDA4 := hDA.keep Y4
    have hA4 := hA1.keep Y4
    have G4 := grown_trans G1 Y4
    have F4 : Fz (fun x => e.r.v.ownBlock = some x) w1 w4 := (Fz.refl _ _).step Y4 (fun k e' _ => by cases e')
    refine HK4.out _ _ ?_
    clear HK4
    refine wp_seq_k fun K5 hK5 => ?_
    have HK5 : Hid _ := hK5
    clear hK5
    go_wp2
    refine HK5.out _ _ ?_
    clear HK5
    obtain ⟨e0, e1, e2, eE, ech⟩ := HA.out
    exact rh_t23 w w1 w4 lo g9 w1.heap.size gq cq cr sz ma lost (((ho : Int) + 1) % 256) st hc hh hm ho hf es Es e era ern erc b24 b44 b94 b144 hL hat hhh F4 hlo hg9 (Nat.le_refl _) (by have := hL.o.hi (x := gq) (.inl rfl); omega) G4 da dm dc lod D hDA4 hdm hhf era ern erc [] hA4 (fun b h => by rw [HOB.out]; exact h) hD1 (by have := hL.o.hi (x := gq) (.inl rfl); have := Y4.size; omega) G HGn.out r0 r1 r2 ch V Ps E e0 e1 e2 eE ech HEV.out HEP.out

  · have bx : ((ex != -1) : Bool) = true := by simpa using hx1
    clear hx1
    by_cases hx2 : ex = (ho : Int)
    · have by2 : ((ex != (ho : Int)) : Bool) = false := by simp [hx2]
      have hg := HG.out
      rw [if_pos hx2] at hg
      have HGn : Hid _ := hg
      clear hg hx2
      have s0 : True := trivial
      refine wp_seq_k fun K3 hK3 => ?_
      have HK3 : Hid _ := hK3
      clear hK3
      go_wp2
      refine HK3.out _ _ ?_
      clear HK3
      refine wp_seq_k fun K4 hK4 => ?_
      have HK4 : Hid _ := hK4
      clear hK4
      clear q0 q1 y3
      obtain ⟨v0, v1, v2, v3, v4⟩ := BxS.cell5 b93
      have q1 : w3.cell? ⟨w1.heap.size, 0, none⟩ = some (.int .i64 ex) := b143.cell 0 (by show 0 < 2; decide)
      have hq : (((ho : Int) + 1).tmod 256) = ((ho : Int) + 1) % 256 := by rw [Int.tmod_eq_emod_of_nonneg (by omega)]
      go_wp2_with (have _t := s0; clear s0; refine wpList_stC _ rfl _ _ _ rfl w1.heap.size 0 68 _ #[.int .i64 (((ho : Int) + 1) % 256), .slice era ern erc] (.int .i64 (((ho : Int) + 1) % 256)) rfl rfl b143 (stc_int _ _ _) (by show 0 < 2; decide) rfl ?_; intro w4 b144 u4)
      clear v0 v1 v2 v3 v4 q1
      have n4 : ∀ {g : Nat} {t : TypeId} {cs : Array Value}, BxS w3 g t cs → 68 ≠ t → BxS w4 g t cs := fun b ht => b.keep u4 (fun e' => by have e' := Option.some.inj e'; subst e'; exact BxS.apart b143 b ht rfl)
      have b24 := n4 b23 (by decide)
      have b44 := n4 b43 (by decide)
      have b94 := n4 b93 (by decide)
      have Y4 := grown_far Y3 u4 (fun q e' => by have e' := Option.some.inj e'; omega)
      have hDA4 := hDA.keep Y4
      have hA4 := hA1.keep Y4
      have G4 := grown_trans G1 Y4
      have F4 : Fz (fun x => e.r.v.ownBlock = some x) w1 w4 := (Fz.refl _ _).step Y4 (fun k e' _ => by cases e')
      refine HK4.out _ _ ?_
      clear HK4
      refine wp_seq_k fun K5 hK5 => ?_
      have HK5 : Hid _ := hK5
      clear hK5
      go_wp2
      refine HK5.out _ _ ?_
      clear HK5
      obtain ⟨e0, e1, e2, eE, ech⟩ := HA.out
      exact rh_t23 w w1 w4 lo g9 w1.heap.size gq cq cr sz ma lost (((ho : Int) + 1) % 256) st hc hh hm ho hf es Es e era ern erc b24 b44 b94 b144 hL hat hhh F4 hlo hg9 (Nat.le_refl _) (by have := hL.o.hi (x := gq) (.inl rfl); omega) G4 da dm dc lod D hDA4 hdm hhf era ern erc e.r.D hA4 (fun b h => by rw [HOB.out]; exact h) hD1 (by have := hL.o.hi (x := gq) (.inl rfl); have := Y4.size; omega) G HGn.out r0 r1 r2 ch V Ps E e0 e1 e2 eE ech HEV.out HEP.out

    · have by2 : ((ex != (ho : Int)) : Bool) = true := by simpa using hx2
      have hg := HG.out
      rw [if_neg hx2] at hg
      have HGn : Hid _ := hg
      clear hg hx2
      have s0 : True := trivial
      refine wp_seq_k fun K3 hK3 => ?_
      have HK3 : Hid _ := hK3
      clear hK3
      go_wp2
      refine HK3.out _ _ ?_
      clear HK3
      refine wp_seq_k fun K4 hK4 => ?_
      have HK4 : Hid _ := hK4
      clear hK4
      clear q0 q1 y3
      obtain ⟨v0, v1, v2, v3, v4⟩ := BxS.cell5 b93
      have q1 : w3.cell? ⟨w1.heap.size, 0, none⟩ = some (.int .i64 ex) := b143.cell 0 (by show 0 < 2; decide)
      have hq : (((ho : Int) + 1).tmod 256) = ((ho : Int) + 1) % 256 := by rw [Int.tmod_eq_emod_of_nonneg (by omega)]
      go_wp2_with (have _t := s0; clear s0; refine wpList_stC _ rfl _ _ _ rfl w1.heap.size 0 68 _ #[.int .i64 (((ho : Int) + 1) % 256), .slice era ern erc] (.int .i64 (((ho : Int) + 1) % 256)) rfl rfl b143 (stc_int _ _ _) (by show 0 < 2; decide) rfl ?_; intro w4 b144 u4)
      clear v0 v1 v2 v3 v4 q1
      have n4 : ∀ {g : Nat} {t : TypeId} {cs : Array Value}, BxS w3 g t cs → 68 ≠ t → BxS w4 g t cs := fun b ht => b.keep u4 (fun e' => by have e' := Option.some.inj e'; subst e'; exact BxS.apart b143 b ht rfl)
      have b24 := n4 b23 (by decide)
      have b44 := n4 b43 (by decide)
      have b94 := n4 b93 (by decide)
      have Y4 := grown_far Y3 u4 (fun q e' => by have e' := Option.some.inj e'; omega)
      have hDA4 := hDA.keep Y4
      have hA4 := hA1.keep Y4
      have G4 := grown_trans G1 Y4
      have F4 : Fz (fun x => e.r.v.ownBlock = some x) w1 w4 := (Fz.refl _ _).step Y4 (fun k e' _ => by cases e')
      refine HK4.out _ _ ?_
      clear HK4
      refine wp_seq_k fun K5 hK5 => ?_
      have HK5 : Hid _ := hK5
      clear hK5
      go_wp2
      refine HK5.out _ _ ?_
      clear HK5
      obtain ⟨e0, e1, e2, eE, ech⟩ := HA.out
      exact rh_t23 w w1 w4 lo g9 w1.heap.size gq cq cr sz ma lost (((ho : Int) + 1) % 256) st hc hh hm ho hf es Es e era ern erc b24 b44 b94 b144 hL hat hhh F4 hlo hg9 (Nat.le_refl _) (by have := hL.o.hi (x := gq) (.inl rfl); omega) G4 da dm dc lod D hDA4 hdm hhf none 0 0 [] (ans_nil w4 lo) (fun b h => by simp [Value.ownBlock] at h) (by omega) (by have := hL.o.hi (x := gq) (.inl rfl); have := Y4.size; omega) G HGn.out r0 r1 r2 ch V Ps E e0 e1 e2 eE ech HEV.out HEP.out

set_option maxHeartbeats 32000000 in
theorem rh_t11 {u0 u1 u3 u5 u6 u7 u8 u12 u13 u14 u15 u16 u17 u18 u19 u20 u21 u22 u23 u24 u25 u26 u27 u28 u29 u30 u31 u32 u33 u34 u35 u36 u37 u38 u39 u40 u41 u42 u43 u44 u45 u46 u47 u48 u49 u50 u51 u52 u53 u54 u55 u56 u57 u58 u59 u60 u61 u62 u63 u64 u65 u66 u67 u68 u69 u70 u71 u72 u73 u74 u75 u76 u77 u78 u79 u80 u81 u82 u83 u84 u85 u86 u87 u88 u89 u90 u91 u92 u93 u94 u95 u96 u97 u98 u99 u100 u101 u102 u103 u104 u105 u106 u107 u108 u109 u110 u111 u112 u113 u114 u115 u116 u117 u118 u119 u120 u121 u122 u123 u124 u125 u126 u127 u128 u129 u130 u131 u132 u133 u134 u135 u136 u137 u138 u139 u140 u141 u142 u143 u144 u145 u146 u147 u148 u149 u150 u151 u152 u153 u154 u155 u156 u157 u158 u159 u160 u161 u162 u163 u164 u165 u166 u167 u168 u169 u170 u171 u172 u173 u174 u175 : Value} (w w1 : World) (lo g9 gq cq : Nat) (B : List Nat) (cr sz ma : Int) (es : List Er) (Es : List Ed) (da : Option Addr) (dm dc lod : Nat) (b2 : BxS w1 w.heap.size 43 #[.int .i64 cr, .int .i64 sz, .int .i64 ma, .slice (some ⟨gq, 0, none⟩) 7 cq]) (b4 : BxS w1 (w.heap.size + 1) 43 #[.int .i64 0, .int .i64 0, .int .i64 0, .slice none 0 0]) (b9 : BxS w1 g9 28 #[.int .i64 ((hrC B : Nat) : Int), .int .i64 ((hrH B : Nat) : Int), .int .i64 ((hrM B : Nat) : Int), .int .i64 ((hrO B : Nat) : Int), .int .i64 ((hrF B : Nat) : Int)]) (hL : OwL w1 lo (some ⟨gq, 0, none⟩) 7 cq es Es) (hlo : w.heap.size + 2 ≤ lo) (hg9 : w.heap.size + 2 ≤ g9) (hDA : Ans w1 lod da dm dc (unD B)) (hB : IsB B) (hu : unE B = 0) (hle : leD cr sz ma Es = true) (herN : erN cr sz B = 0) (G1 : w.grownBy w1 none)
    (r0 r1 r2 ch : Int) (V : List Ed) (Ps : List Pd) (lost : Int) (st E : Nat) (hN : HR cr sz ma Es B r0 r1 r2 V ch Ps lost st E) :
    Code.wp Try.prog (tailR 11 (Try.f35.body.getD .skip)) (bodyPost Try.prog Try.f35 (fun r w' => ∃ (a' : Option Addr) (n' c' : Nat) (es' : List Er) (pa : Option Addr) (pn pc : Nat) (ps : List Pk), r = .returned (.tuple #[.agg #[.int .i64 r0, .int .i64 r1, .int .i64 r2, .slice a' n' c'], .slice pa pn pc, .int .i64 lost, .int .i64 (st : Int), .int .i64 (E : Int)]) ∧ OwL w' w.heap.size a' n' c' es' V ∧ OwT 66 7 w' w.heap.size pa pn pc (ps.map (Pk.he ch)) ∧ ps.map Pk.d = Ps ∧ (∀ x, Tbl (.slice pa pn pc) (ps.map (Pk.he ch)) x → ¬ Tbl (.slice a' n' c') (es'.map Er.th) x) ∧ w.grownBy w' none)) (Act.mk (List.toArray (u0 :: u1 :: (.pointer (some ⟨w.heap.size, 0, none⟩)) :: u3 :: (.pointer (some ⟨w.heap.size + 1, 0, none⟩)) :: u5 :: u6 :: u7 :: u8 :: (.pointer (some ⟨g9, 0, none⟩)) :: (.slice da dm dc) :: (.int .i64 ((unS B : Nat) : Int)) :: u12 :: u13 :: u14 :: u15 :: u16 :: u17 :: u18 :: u19 :: u20 :: u21 :: u22 :: u23 :: u24 :: u25 :: u26 :: u27 :: u28 :: u29 :: u30 :: u31 :: u32 :: u33 :: u34 :: u35 :: u36 :: u37 :: u38 :: u39 :: u40 :: u41 :: u42 :: u43 :: u44 :: u45 :: u46 :: u47 :: u48 :: u49 :: u50 :: u51 :: u52 :: u53 :: u54 :: u55 :: u56 :: u57 :: u58 :: u59 :: u60 :: u61 :: u62 :: u63 :: u64 :: u65 :: u66 :: u67 :: u68 :: u69 :: u70 :: u71 :: u72 :: u73 :: u74 :: u75 :: u76 :: u77 :: u78 :: u79 :: u80 :: u81 :: u82 :: u83 :: u84 :: u85 :: u86 :: u87 :: u88 :: u89 :: u90 :: u91 :: u92 :: u93 :: u94 :: u95 :: u96 :: u97 :: u98 :: u99 :: u100 :: u101 :: u102 :: u103 :: u104 :: u105 :: u106 :: u107 :: u108 :: u109 :: u110 :: u111 :: u112 :: u113 :: u114 :: u115 :: u116 :: u117 :: u118 :: u119 :: u120 :: u121 :: u122 :: u123 :: u124 :: u125 :: u126 :: u127 :: u128 :: u129 :: u130 :: u131 :: u132 :: u133 :: u134 :: u135 :: u136 :: u137 :: u138 :: u139 :: u140 :: u141 :: u142 :: u143 :: u144 :: u145 :: u146 :: u147 :: u148 :: u149 :: u150 :: u151 :: u152 :: u153 :: u154 :: u155 :: u156 :: u157 :: u158 :: u159 :: u160 :: u161 :: u162 :: u163 :: u164 :: u165 :: u166 :: u167 :: u168 :: u169 :: u170 :: u171 :: u172 :: u173 :: u174 :: u175 :: [])) []) w1 := by
  conv => enter [2]; whnf
  have i4 := Try.info_li
  obtain ⟨l1, l2, l3, l4, l5⟩ := leD_ok hle
  have husz := un_sz hu
  have hudl := un_dlen hu
  have hdl := hDA.len
  have hm1 : hrM B ≤ 255 := by have := hB.nth 2; unfold hrM; omega
  have ho1 : hrO B ≤ 255 := by have := hB.nth 3; unfold hrO; omega
  have hf1 : hrF B ≤ 2047 := by have : hrF B < 2048 := Nat.mod_lt _ (by decide); omega
  have HN : Hid _ := hN
  clear hN
  obtain ⟨lo', hlo'⟩ : ∃ lo', loN ma ((hrM B : Nat) : Int) = lo' := ⟨_, rfl⟩
  have HLO : Hid _ := hlo'
  refine wp_seq_k fun K1 hK1 => ?_
  have HK1 : Hid _ := hK1
  clear hK1
  go_wp2
  refine HK1.out _ _ ?_
  clear HK1
  refine wp_seq_k fun K2 hK2 => ?_
  have HK2 : Hid _ := hK2
  clear hK2
  obtain ⟨z0, z1, z2, z3⟩ := BxS.cell4 b2
  obtain ⟨y0, y1, y2, y3, y4⟩ := BxS.cell5 b9
  by_cases hma : ma = -1
  · have bx : ((ma != -1) : Bool) = false := by simp [hma]
    have hl0 : lo' = 0 := by rw [← hlo']; unfold loN; rw [if_pos hma]
    have HM1 : Hid _ := hma
    clear hma hlo'
    subst hl0
    go_wp2
    clear z0 z1 z2 z3 y0 y1 y2 y3 y4
    refine HK2.out _ _ ?_
    clear HK2
    refine wp_seq_k fun K3 hK3 => ?_
    have HK3 : Hid _ := hK3
    clear hK3
    obtain ⟨z0, z1, z2, z3⟩ := BxS.cell4 b2
    obtain ⟨y0, y1, y2, y3, y4⟩ := BxS.cell5 b9
    have hq2 : (((hrM B : Nat) : Int) + 1).tmod 256 = (((hrM B : Nat) : Int) + 1) % 256 := by rw [Int.tmod_eq_emod_of_nonneg (by omega)]
    have s0 : True := trivial
    go_wp2_with (have _t := s0; clear s0; refine wpList_stC _ rfl _ _ _ rfl w.heap.size 2 43 _ #[.int .i64 cr, .int .i64 sz, .int .i64 ((((hrM B : Nat) : Int) + 1) % 256), .slice (some ⟨gq, 0, none⟩) 7 cq] (.int .i64 ((((hrM B : Nat) : Int) + 1) % 256)) rfl rfl b2 (stc_int _ _ _) (by show 2 < 4; decide) rfl ?_; intro w2 b22 u2)
    clear z0 z1 z2 z3 y0 y1 y2 y3 y4
    have b42 := b4.keep u2 (fun e => by have e := Option.some.inj e; omega)
    have b92 := b9.keep u2 (fun e => by have e := Option.some.inj e; omega)
    have hL2 := hL.far u2 (by omega)
    have hDA2 : Ans w2 lod da dm dc (unD B) := hDA.kept u2 (by
      cases hown : (Value.slice da dm dc).ownBlock with
      | none => exact .inl rfl
      | some z => exact .inr (fun e => by rw [e] at hown; exact hDA.apart b2 (by decide) hown))
    have G2 := grown_far G1 u2 (fun q e => by have e := Option.some.inj e; omega)
    refine HK3.out _ _ ?_
    clear HK3
    obtain ⟨MA, hMA⟩ : ∃ MA, (((hrM B : Nat) : Int) + 1) % 256 = MA := ⟨_, rfl⟩
    rw [hMA] at b22
    have HMA : Hid _ := hMA
    clear hMA
    rcases HN.out.p with ⟨h, _⟩ | ⟨_, h, _⟩ | ⟨_, _, h7, e0, e1, e2, e3, e4, e5, e6, e7⟩ | ⟨_, _, h7, e0, e1, e2, e3, e4, e5, e6, e7, e8⟩
    · rw [hle] at h; cases h
    · exact absurd herN h
    · rw [HMA.out] at e2
      rw [HLO.out] at e5
      have h7b : ((((hrH B : Nat) : Int) == 7) : Bool) = true := by rw [h7]; rfl
      have HH7 : Hid _ := h7
      have HE6 : Hid _ := e6
      subst e0 e1 e2 e3 e4 e7
      have HE5 : Hid _ := e5
      clear h7 e6 e5
      have y1 : w2.cell? ⟨g9, 1, none⟩ = some (.int .i64 ((hrH B : Nat) : Int)) := b92.cell 1 (by show 1 < 5; decide)
      have s0 : True := trivial
      go_wp2_with (first
        | (have _t := s0; clear s0; refine wpList_ldX _ rfl _ (.tmp 2) rfl w.heap.size _ rfl b22 Try.underlying43 i4 ?_; have s1 : True := trivial)
        | (have _t := s1; clear s1; refine wpList_stX _ rfl _ (.tmp 4) (.tmp 75) rfl (w.heap.size + 1) _ _ rfl rfl b42 i4 rfl (by simp [Value.oneCell']) ?_; intro w7 b47 u7))
      refine bodyPost_ret (results_cell5 rfl _ _ _ ⟨w.heap.size + 1, 0, none⟩ _ (.slice none 0 0) (.int .i64 0) (.int .i64 ((unS B : Nat) : Int)) (.int .i64 0) rfl (BxS.load (t := 43) b47 Try.underlying43 i4) rfl rfl rfl rfl) rfl ?_
      have hS := HE6.out
      have hLo := HE5.out
      subst hS hLo
      exact ⟨_, _, _, es, none, 0, 0, [], rfl, (hL2.far u7 (by omega)).wide (by omega), OwT.nil _ _ _ _, rfl, (fun x hx => by rcases hx with hx | ⟨y, hy, _⟩ <;> first | (simp [Value.ownBlock] at hx) | (cases hy)), grown_far G2 u7 (fun q e => by have e := Option.some.inj e; omega)⟩
    · rw [HMA.out] at e2
      rw [HLO.out] at e5
      have h7b : ((((hrH B : Nat) : Int) == 7) : Bool) = false := by
        have : ¬ (((hrH B : Nat) : Int) = 7) := by omega
        simpa using this
      have y1 : w2.cell? ⟨g9, 1, none⟩ = some (.int .i64 ((hrH B : Nat) : Int)) := b92.cell 1 (by show 1 < 5; decide)
      have HE3 : Hid _ := e3
      have HE4 : Hid _ := e4
      have HE8 : Hid _ := e8
      have HE6 : Hid _ := e6
      have HE5 : Hid _ := e5
      have HH7 : Hid _ := h7
      subst e0 e1 e2 e7
      clear e3 e4 e6 e8 h7 e5
      refine wp_seq_k fun K4 hK4 => ?_
      have HK4 : Hid _ := hK4
      clear hK4
      go_wp2
      refine HK4.out _ _ ?_
      clear HK4
      have hS := HE6.out
      have hLo := HE5.out
      subst hS hLo
      exact rh_t17 w w2 lo g9 gq cq cr sz MA 0 (unS B) (hrC B) (hrH B) (hrM B) (hrO B) (hrF B) es Es da dm dc lod (unD B) b22 b42 b92 hL2 hlo hg9 hDA2 (by omega) ho1 hf1 G2 HH7.out (fun e he => ⟨(l5 e he).2.1, (l5 e he).2.2⟩) (heG Es B) rfl cr sz MA ch V Ps 0 rfl rfl rfl rfl HE8.out HE3.out HE4.out

  · have bx : ((ma != -1) : Bool) = true := by simpa using hma
    have ht : (((hrM B : Nat) : Int) - ma + 256).tmod 256 = lo' := by
      rw [← hlo']
      unfold loN
      rw [if_neg hma, Int.tmod_eq_emod_of_nonneg (by omega)]
    have ht2 : (((hrM B : Nat) : Int) - ma + 256) % 256 = lo' := by
      rw [← hlo']
      unfold loN
      rw [if_neg hma]
    clear hma hlo'
    go_wp2
    clear z0 z1 z2 z3 y0 y1 y2 y3 y4 ht ht2
    refine HK2.out _ _ ?_
    clear HK2
    refine wp_seq_k fun K3 hK3 => ?_
    have HK3 : Hid _ := hK3
    clear hK3
    obtain ⟨z0, z1, z2, z3⟩ := BxS.cell4 b2
    obtain ⟨y0, y1, y2, y3, y4⟩ := BxS.cell5 b9
    have hq2 : (((hrM B : Nat) : Int) + 1).tmod 256 = (((hrM B : Nat) : Int) + 1) % 256 := by rw [Int.tmod_eq_emod_of_nonneg (by omega)]
    have s0 : True := trivial
    go_wp2_with (have _t := s0; clear s0; refine wpList_stC _ rfl _ _ _ rfl w.heap.size 2 43 _ #[.int .i64 cr, .int .i64 sz, .int .i64 ((((hrM B : Nat) : Int) + 1) % 256), .slice (some ⟨gq, 0, none⟩) 7 cq] (.int .i64 ((((hrM B : Nat) : Int) + 1) % 256)) rfl rfl b2 (stc_int _ _ _) (by show 2 < 4; decide) rfl ?_; intro w2 b22 u2)
    clear z0 z1 z2 z3 y0 y1 y2 y3 y4
    have b42 := b4.keep u2 (fun e => by have e := Option.some.inj e; omega)
    have b92 := b9.keep u2 (fun e => by have e := Option.some.inj e; omega)
    have hL2 := hL.far u2 (by omega)
    have hDA2 : Ans w2 lod da dm dc (unD B) := hDA.kept u2 (by
      cases hown : (Value.slice da dm dc).ownBlock with
      | none => exact .inl rfl
      | some z => exact .inr (fun e => by rw [e] at hown; exact hDA.apart b2 (by decide) hown))
    have G2 := grown_far G1 u2 (fun q e => by have e := Option.some.inj e; omega)
    refine HK3.out _ _ ?_
    clear HK3
    obtain ⟨MA, hMA⟩ : ∃ MA, (((hrM B : Nat) : Int) + 1) % 256 = MA := ⟨_, rfl⟩
    rw [hMA] at b22
    have HMA : Hid _ := hMA
    clear hMA
    rcases HN.out.p with ⟨h, _⟩ | ⟨_, h, _⟩ | ⟨_, _, h7, e0, e1, e2, e3, e4, e5, e6, e7⟩ | ⟨_, _, h7, e0, e1, e2, e3, e4, e5, e6, e7, e8⟩
    · rw [hle] at h; cases h
    · exact absurd herN h
    · rw [HMA.out] at e2
      rw [HLO.out] at e5
      have h7b : ((((hrH B : Nat) : Int) == 7) : Bool) = true := by rw [h7]; rfl
      have HH7 : Hid _ := h7
      have HE6 : Hid _ := e6
      subst e0 e1 e2 e3 e4 e7
      have HE5 : Hid _ := e5
      clear h7 e6 e5
      have y1 : w2.cell? ⟨g9, 1, none⟩ = some (.int .i64 ((hrH B : Nat) : Int)) := b92.cell 1 (by show 1 < 5; decide)
      have s0 : True := trivial
      go_wp2_with (first
        | (have _t := s0; clear s0; refine wpList_ldX _ rfl _ (.tmp 2) rfl w.heap.size _ rfl b22 Try.underlying43 i4 ?_; have s1 : True := trivial)
        | (have _t := s1; clear s1; refine wpList_stX _ rfl _ (.tmp 4) (.tmp 75) rfl (w.heap.size + 1) _ _ rfl rfl b42 i4 rfl (by simp [Value.oneCell']) ?_; intro w7 b47 u7))
      refine bodyPost_ret (results_cell5 rfl _ _ _ ⟨w.heap.size + 1, 0, none⟩ _ (.slice none 0 0) (.int .i64 lo') (.int .i64 ((unS B : Nat) : Int)) (.int .i64 0) rfl (BxS.load (t := 43) b47 Try.underlying43 i4) rfl rfl rfl rfl) rfl ?_
      have hS := HE6.out
      have hLo := HE5.out
      subst hS hLo
      exact ⟨_, _, _, es, none, 0, 0, [], rfl, (hL2.far u7 (by omega)).wide (by omega), OwT.nil _ _ _ _, rfl, (fun x hx => by rcases hx with hx | ⟨y, hy, _⟩ <;> first | (simp [Value.ownBlock] at hx) | (cases hy)), grown_far G2 u7 (fun q e => by have e := Option.some.inj e; omega)⟩
    · rw [HMA.out] at e2
      rw [HLO.out] at e5
      have h7b : ((((hrH B : Nat) : Int) == 7) : Bool) = false := by
        have : ¬ (((hrH B : Nat) : Int) = 7) := by omega
        simpa using this
      have y1 : w2.cell? ⟨g9, 1, none⟩ = some (.int .i64 ((hrH B : Nat) : Int)) := b92.cell 1 (by show 1 < 5; decide)
      have HE3 : Hid _ := e3
      have HE4 : Hid _ := e4
      have HE8 : Hid _ := e8
      have HE6 : Hid _ := e6
      have HE5 : Hid _ := e5
      have HH7 : Hid _ := h7
      subst e0 e1 e2 e7
      clear e3 e4 e6 e8 h7 e5
      refine wp_seq_k fun K4 hK4 => ?_
      have HK4 : Hid _ := hK4
      clear hK4
      go_wp2
      refine HK4.out _ _ ?_
      clear HK4
      have hS := HE6.out
      have hLo := HE5.out
      subst hS hLo
      exact rh_t17 w w2 lo g9 gq cq cr sz MA lo' (unS B) (hrC B) (hrH B) (hrM B) (hrO B) (hrF B) es Es da dm dc lod (unD B) b22 b42 b92 hL2 hlo hg9 hDA2 (by omega) ho1 hf1 G2 HH7.out (fun e he => ⟨(l5 e he).2.1, (l5 e he).2.2⟩) (heG Es B) rfl cr sz MA ch V Ps 0 rfl rfl rfl rfl HE8.out HE3.out HE4.out

set_option maxHeartbeats 32000000 in
theorem rhear_any (cr sz ma : Int) (a : Option Addr) (n c : Nat) (Es : List Ed) (b : Option Addr) (nb cb : Nat) (B : List Nat) (w : World) (h : RdL w a n c Es) (hb : Rd w b nb cb B) (hnb : nb ≤ 140737488351232) (r0 r1 r2 ch : Int) (V : List Ed) (Ps : List Pd) (lost : Int) (st E : Nat) (hN : HR cr sz ma Es B r0 r1 r2 V ch Ps lost st E) :
    Calls Try.prog 35 #[.agg #[.int .i64 cr, .int .i64 sz, .int .i64 ma, .slice a n c], .slice b nb cb] w (fun r w' => ∃ (a' : Option Addr) (n' c' : Nat) (es' : List Er) (pa : Option Addr) (pn pc : Nat) (ps : List Pk), r = .returned (.tuple #[.agg #[.int .i64 r0, .int .i64 r1, .int .i64 r2, .slice a' n' c'], .slice pa pn pc, .int .i64 lost, .int .i64 (st : Int), .int .i64 (E : Int)]) ∧ OwL w' w.heap.size a' n' c' es' V ∧ OwT 66 7 w' w.heap.size pa pn pc (ps.map (Pk.he ch)) ∧ ps.map Pk.d = Ps ∧ (∀ x, Tbl (.slice pa pn pc) (ps.map (Pk.he ch)) x → ¬ Tbl (.slice a' n' c') (es'.map Er.th) x) ∧ w.grownBy w' none) := by
  have i4 := Try.info_li
  have i5 := Try.info_hd
  have b0 := BxS.new w 43 #[.int .i64 cr, .int .i64 sz, .int .i64 ma, .slice a n c]
  have g0 := World.grownBy_alloc w (.cells #[.int .i64 cr, .int .i64 sz, .int .i64 ma, .slice a n c] 43) none
  generalize hw0 : w.alloc (.cells #[.int .i64 cr, .int .i64 sz, .int .i64 ma, .slice a n c] 43) = w0 at b0 g0
  have hz0 : w0.heap.size = w.heap.size + 1 := by rw [← hw0]; simp
  have b1 := BxS.new w0 43 #[.int .i64 0, .int .i64 0, .int .i64 0, .slice none 0 0]
  have g1 := World.grownBy_alloc w0 (.cells #[.int .i64 0, .int .i64 0, .int .i64 0, .slice none 0 0] 43) none
  generalize hw1 : w0.alloc (.cells #[.int .i64 0, .int .i64 0, .int .i64 0, .slice none 0 0] 43) = w1 at b1 g1
  rw [hz0] at b1
  have sz1 : w.heap.size + 2 ≤ w1.heap.size := by rw [← hw1]; simp [hz0]
  have p0 := b0.keep g1 (by simp)
  have G1 := grown_trans g0 g1
  have h1 := h.keep G1
  have hb1 := hb.keep G1
  have HN : Hid _ := hN
  clear hN
  have kM := rlistenerMay2_any cr sz ma a n c Es w1 h1
  unfold liA at kM
  go_enter Try.func35, Try.ntmps35
  refine wp_seq_k fun K0 hK0 => ?_
  have HK0 : Hid _ := hK0
  clear hK0
  go_wp2
  refine HK0.out _ _ ?_
  clear HK0
  refine wp_seq_k fun K1 hK1 => ?_
  have HK1 : Hid _ := hK1
  clear hK1
  have s0 : True := trivial
  cases hle : leD cr sz ma Es with
  | false =>
    rw [hle] at kM
    rcases HN.out.p with ⟨_, e0, e1, e2, e3, e4, e5, e6, e7⟩ | ⟨h, _⟩ | ⟨h, _⟩ | ⟨h, _⟩
    · subst e0 e1 e2 e3 e4 e5 e6 e7
      go_wp2_with (first
        | (have _t := s0; clear s0; refine wpList_ldX _ rfl _ (.tmp 2) rfl w.heap.size _ rfl p0 Try.underlying43 i4 ?_; have s1 : True := trivial)
        | (go_at_call 62; have _t := s1; clear s1; refine kM.mono ?_; rintro e w2 ⟨rfl, g2⟩; have b12 := b1.keep g2 (by simp); have s2 : True := trivial)
        | (have _t := s2; clear s2; refine wpList_stX _ rfl _ (.tmp 4) (.tmp 25) rfl (w.heap.size + 1) _ _ rfl rfl b12 i4 rfl (by simp [Value.oneCell']) ?_; intro w7 b47 u7))
      refine bodyPost_ret (results_cell5 rfl _ _ _ ⟨w.heap.size + 1, 0, none⟩ _ (.slice none 0 0) (.int .i64 0) (.int .i64 0) (.int .i64 11) rfl (BxS.load (t := 43) b47 Try.underlying43 i4) rfl rfl rfl rfl) rfl ?_
      exact ⟨_, _, _, [], none, 0, 0, [], rfl, OwL.nil _ _, OwT.nil _ _ _ _, rfl, (fun x hx => by rcases hx with hx | ⟨y, hy, _⟩ <;> first | (simp [Value.ownBlock] at hx) | (cases hy)), grown_far (grown_trans G1 g2) u7 (fun q e => by have e := Option.some.inj e; omega)⟩
    · rw [hle] at h; cases h
    · rw [hle] at h; cases h
    · rw [hle] at h; cases h
  | true =>
    rw [hle] at kM
    obtain ⟨l1, l2, l3, l4, l5⟩ := leD_ok hle
    have hn7 : n = 7 := by rw [← h.len]; exact l4
    subst hn7
    go_wp2_with (first
      | (have _t := s0; clear s0; refine wpList_ldX _ rfl _ (.tmp 2) rfl w.heap.size _ rfl p0 Try.underlying43 i4 ?_; have s1 : True := trivial)
      | (go_at_call 62; have _t := s1; clear s1; refine kM.mono ?_; rintro e w2 ⟨rfl, g2⟩; have b12 := b1.keep g2 (by simp); have p02 := p0.keep g2 (by simp)))
    have h2 := h1.keep g2
    have hb2 := hb1.keep g2
    have G2 := grown_trans G1 g2
    have zz2 := g2.size
    refine HK1.out _ _ ?_
    clear HK1
    refine wp_seq_k fun K2 hK2 => ?_
    have HK2 : Hid _ := hK2
    clear hK2
    have s0 : True := trivial
    go_wp2_with (first
      | (have _t := s0; clear s0; refine wpList_ldX _ rfl _ (.tmp 2) rfl w.heap.size _ rfl p02 Try.underlying43 i4 ?_; have s1 : True := trivial)
      | (go_at_call 36; have _t := s1; clear s1; refine (listenerOf_any cr sz ma a 7 c Es w2 h2 (fun e he => by have := (l5 e he).2.1; omega) (by omega)).mono ?_; rintro e w3 ⟨a3, cq, es, rfl, hL3, g3⟩; have b13 := b12.keep g3 (by simp); have p03 := p02.keep g3 (by simp); have s2 : True := trivial)
      | (have _t := s2; clear s2; refine wpList_stX _ rfl _ (.tmp 2) (.tmp 27) rfl w.heap.size _ _ rfl rfl p03 i4 rfl (by simp [Value.oneCell']) ?_; intro w4 b24 u4))
    obtain ⟨gq, rfl⟩ := hL3.o.someT (by decide)
    have b44 := b13.keep u4 (fun e => by have e := Option.some.inj e; omega)
    have hL4 := hL3.far u4 (by omega)
    have G4 := grown_far (grown_trans G2 g3) u4 (fun q e => by have e := Option.some.inj e; omega)
    have hb4 := hb.keep G4
    have zz3 := g3.size
    have zz4 := u4.size
    clear p03 p02 p0 b12 b13 b1 kM
    refine HK2.out _ _ ?_
    clear HK2
    refine wp_seq_k fun K3 hK3 => ?_
    have HK3 : Hid _ := hK3
    clear hK3
    have kU := runpack_any b nb cb B w4 hb4 hnb
    by_cases hu : unE B = 0
    · rw [un_head hu, hu] at kU
      have s0 : True := trivial
      go_wp2_with (first
        | (go_at_call 19; have _t := s0; clear s0; refine kU.mono ?_; rintro e w5 ⟨da, dn, dc, rfl, hA5, g5⟩; have bn := BxS.new w5 28 #[.int .i64 0, .int .i64 0, .int .i64 0, .int .i64 0, .int .i64 0]; have gn := World.grownBy_alloc w5 (.cells #[.int .i64 0, .int .i64 0, .int .i64 0, .int .i64 0, .int .i64 0] 28) none; generalize hw6 : w5.alloc (.cells #[.int .i64 0, .int .i64 0, .int .i64 0, .int .i64 0, .int .i64 0] 28) = w6 at bn gn; have s1 : True := trivial)
        | (have _t := s1; clear s1; refine wpList_stX _ rfl _ (.tmp 9) (.tmp 31) rfl w5.heap.size _ _ rfl rfl bn i5 rfl (by simp [Value.oneCell']) ?_; intro w7 b97 u7))
      have zz5 := g5.size
      have Y7 := grown_far (grown_trans g5 gn) u7 (fun q e => by have e := Option.some.inj e; omega)
      have hA7 := (hA5.keep gn).kept u7 (by
        cases hown : (Value.slice da dn dc).ownBlock with
        | none => exact .inl rfl
        | some z => exact .inr (fun e => by have := hA5.ltB hown; have e := Option.some.inj e; omega))
      have b27 := b24.keep Y7 (by simp)
      have b47 := b44.keep Y7 (by simp)
      have hL7 := hL4.keep Y7
      refine HK3.out _ _ ?_
      clear HK3
      have herN : erN cr sz B = if (nb : Int) = sz then (if ((hrC B : Nat) : Int) = cr then 0 else 10) else 1 := by unfold erN; rw [if_pos hu, hb.len]
      obtain ⟨z0, z1, z2, z3⟩ := BxS.cell4 b27
      obtain ⟨y0, y1, y2, y3, y4⟩ := BxS.cell5 b97
      by_cases hs : (nb : Int) = sz
      · rw [if_pos hs] at herN
        have bs : (((nb : Int) != sz) : Bool) = false := by simp [hs]
        have HHS : Hid _ := hs
        clear hs
        by_cases hcr : ((hrC B : Nat) : Int) = cr
        · rw [if_pos hcr] at herN
          have bc : ((((hrC B : Nat) : Int) != cr) : Bool) = false := by simp [hcr]
          have HHC : Hid _ := hcr
          have HER : Hid _ := herN
          clear hcr herN
          refine wp_seq_k fun K4 hK4 => ?_
          have HK4 : Hid _ := hK4
          clear hK4
          go_wp2
          refine HK4.out _ _ ?_
          clear HK4
          refine wp_seq_k fun K5 hK5 => ?_
          have HK5 : Hid _ := hK5
          clear hK5
          go_wp2
          refine HK5.out _ _ ?_
          clear HK5
          refine wp_seq_k fun K6 hK6 => ?_
          have HK6 : Hid _ := hK6
          clear hK6
          go_wp2
          refine HK6.out _ _ ?_
          clear HK6
          exact rh_t11 w w7 w2.heap.size w5.heap.size gq cq B cr sz ma es Es da dn dc w4.heap.size b27 b47 b97 hL7 (by omega) (by omega) hA7 hb.byte hu hle HER.out (grown_trans G4 Y7) r0 r1 r2 ch V Ps lost st E HN.out
        · rw [if_neg hcr] at herN
          have bc : ((((hrC B : Nat) : Int) != cr) : Bool) = true := by simpa using hcr
          clear hcr
          have hne0 : erN cr sz B ≠ 0 := by rw [herN]; decide
          rcases HN.out.p with ⟨h, _⟩ | ⟨_, _, e0, e1, e2, e3, e4, e5, e6, e7⟩ | ⟨_, h, _⟩ | ⟨_, h, _⟩
          · rw [hle] at h; cases h
          · rw [herN] at e7
            subst e0 e1 e2 e3 e4 e5 e6 e7
            clear herN hne0
            have s0 : True := trivial
            go_wp2_with (first
              | (have _t := s0; clear s0; refine wpList_ldX _ rfl _ (.tmp 2) rfl w.heap.size _ rfl b27 Try.underlying43 i4 ?_; have s1 : True := trivial)
              | (have _t := s1; clear s1; refine wpList_stX _ rfl _ (.tmp 4) (.tmp 55) rfl (w.heap.size + 1) _ _ rfl rfl b47 i4 rfl (by simp [Value.oneCell']) ?_; intro w8 b48 u8))
            refine bodyPost_ret (results_cell5 rfl _ _ _ ⟨w.heap.size + 1, 0, none⟩ _ (.slice none 0 0) (.int .i64 0) (.int .i64 0) (.int .i64 10) rfl (BxS.load (t := 43) b48 Try.underlying43 i4) rfl rfl rfl rfl) rfl ?_
            exact ⟨_, _, _, es, none, 0, 0, [], rfl, (hL7.far u8 (by omega)).wide (by omega), OwT.nil _ _ _ _, rfl, (fun x hx => by rcases hx with hx | ⟨y, hy, _⟩ <;> first | (simp [Value.ownBlock] at hx) | (cases hy)), grown_far (grown_trans G4 Y7) u8 (fun q e => by have e := Option.some.inj e; omega)⟩
          · exact absurd h hne0
          · exact absurd h hne0
      · rw [if_neg hs] at herN
        have bs : (((nb : Int) != sz) : Bool) = true := by simpa using hs
        clear hs
        have hne0 : erN cr sz B ≠ 0 := by rw [herN]; decide
        rcases HN.out.p with ⟨h, _⟩ | ⟨_, _, e0, e1, e2, e3, e4, e5, e6, e7⟩ | ⟨_, h, _⟩ | ⟨_, h, _⟩
        · rw [hle] at h; cases h
        · rw [herN] at e7
          subst e0 e1 e2 e3 e4 e5 e6 e7
          clear herN hne0
          have s0 : True := trivial
          go_wp2_with (first
            | (have _t := s0; clear s0; refine wpList_ldX _ rfl _ (.tmp 2) rfl w.heap.size _ rfl b27 Try.underlying43 i4 ?_; have s1 : True := trivial)
            | (have _t := s1; clear s1; refine wpList_stX _ rfl _ (.tmp 4) (.tmp 55) rfl (w.heap.size + 1) _ _ rfl rfl b47 i4 rfl (by simp [Value.oneCell']) ?_; intro w8 b48 u8))
          refine bodyPost_ret (results_cell5 rfl _ _ _ ⟨w.heap.size + 1, 0, none⟩ _ (.slice none 0 0) (.int .i64 0) (.int .i64 0) (.int .i64 1) rfl (BxS.load (t := 43) b48 Try.underlying43 i4) rfl rfl rfl rfl) rfl ?_
          exact ⟨_, _, _, es, none, 0, 0, [], rfl, (hL7.far u8 (by omega)).wide (by omega), OwT.nil _ _ _ _, rfl, (fun x hx => by rcases hx with hx | ⟨y, hy, _⟩ <;> first | (simp [Value.ownBlock] at hx) | (cases hy)), grown_far (grown_trans G4 Y7) u8 (fun q e => by have e := Option.some.inj e; omega)⟩
        · exact absurd h hne0
        · exact absurd h hne0
    · have hV0 : unV B = heA 0 0 0 0 0 := by unfold unV; rw [if_neg hu]
      have hS0 : unS B = 0 := by unfold unS; rw [if_neg hu]
      have hD0 : unD B = [] := by unfold unD; rw [if_neg hu]
      have herN : erN cr sz B = unE B := by unfold erN; rw [if_neg hu]
      rw [hV0, hS0, hD0] at kU
      unfold heA at kU
      have hne0 : erN cr sz B ≠ 0 := by rw [herN]; exact hu
      rcases HN.out.p with ⟨h, _⟩ | ⟨_, _, e0, e1, e2, e3, e4, e5, e6, e7⟩ | ⟨_, h, _⟩ | ⟨_, h, _⟩
      · rw [hle] at h; cases h
      · rw [herN] at e7
        rw [e7] at kU
        have hE0 : (((E : Int) != 0) : Bool) = true := by
          have : ¬ ((E : Int) = 0) := by omega
          simpa using this
        have hE1 : (((E : Int) == 0) : Bool) = false := by
          have : ¬ ((E : Int) = 0) := by omega
          simpa using this
        subst e0 e1 e2 e3 e4 e5 e6
        clear herN hne0 hV0 hS0 hD0 e7 hu
        have s0 : True := trivial
        go_wp2_with (first
          | (go_at_call 19; have _t := s0; clear s0; refine kU.mono ?_; rintro e w5 ⟨da, dn, dc, rfl, hA5, g5⟩; have bn := BxS.new w5 28 #[.int .i64 0, .int .i64 0, .int .i64 0, .int .i64 0, .int .i64 0]; have gn := World.grownBy_alloc w5 (.cells #[.int .i64 0, .int .i64 0, .int .i64 0, .int .i64 0, .int .i64 0] 28) none; have s1 : True := trivial)
          | (have _t := s1; clear s1; refine wpList_stX _ rfl _ (.tmp 9) (.tmp 31) rfl w5.heap.size _ _ rfl rfl bn i5 rfl (by simp [Value.oneCell']) ?_; intro w7 b97 u7))
        have zz5 := g5.size
        have Y7 := grown_far (grown_trans g5 gn) u7 (fun q e => by have e := Option.some.inj e; omega)
        have b27 := b24.keep Y7 (by simp)
        have b47 := b44.keep Y7 (by simp)
        have hL7 := hL4.keep Y7
        refine HK3.out _ _ ?_
        clear HK3
        have s0 : True := trivial
        go_wp2_with (first
          | (have _t := s0; clear s0; refine wpList_ldX _ rfl _ (.tmp 2) rfl w.heap.size _ rfl b27 Try.underlying43 i4 ?_; have s1 : True := trivial)
          | (have _t := s1; clear s1; refine wpList_stX _ rfl _ (.tmp 4) (.tmp 55) rfl (w.heap.size + 1) _ _ rfl rfl b47 i4 rfl (by simp [Value.oneCell']) ?_; intro w8 b48 u8))
        refine bodyPost_ret (results_cell5 rfl _ _ _ ⟨w.heap.size + 1, 0, none⟩ _ (.slice none 0 0) (.int .i64 0) (.int .i64 0) (.int .i64 (E : Int)) rfl (BxS.load (t := 43) b48 Try.underlying43 i4) rfl rfl rfl rfl) rfl ?_
        exact ⟨_, _, _, es, none, 0, 0, [], rfl, (hL7.far u8 (by omega)).wide (by omega), OwT.nil _ _ _ _, rfl, (fun x hx => by rcases hx with hx | ⟨y, hy, _⟩ <;> first | (simp [Value.ownBlock] at hx) | (cases hy)), grown_far (grown_trans G4 Y7) u8 (fun q e => by have e := Option.some.inj e; omega)⟩
      · exact absurd h hne0
      · exact absurd h hne0
end Go.Proofs.Ytlmddjkplnbadaa
