import Derived.Test.YtlmddjkplnbadaaXB
namespace Go.Proofs.Ytlmddjkplnbadaa
open Go.RowKit
set_option maxRecDepth 100000
set_option linter.unusedVariables false
set_option linter.unusedSimpArgs false

theorem OwR.zeros {w : World} {lo g n : Nat} (h : w.ownsRow 0 22 1 (.slice (some ⟨g, 0, none⟩) n n) n (List.replicate n zr)) (hl : lo ≤ g) : OwR w lo (some ⟨g, 0, none⟩) n n (List.replicate n kr0) := by
  refine ⟨by unfold flatR; rw [List.map_replicate]; exact h, List.length_replicate, fun x e => by have e : g = x := Option.some.inj e; omega, fun r hr => ?_, ?_⟩
  · rw [(List.mem_replicate.1 hr).2]; exact ans_nil _ _
  · refine List.pairwise_iff_getElem.2 (fun i j hi hj _ y e => ?_)
    rw [List.getElem_replicate] at e
    simp [kr0, Rw.v, Value.ownBlock] at e
theorem getD_set_self (L : List Rw) (i : Nat) (r : Rw) (h : i < L.length) : (L.set i r).getD i kr0 = r := by rw [List.getD_eq_getElem?_getD, List.getElem?_set_self h]; rfl
theorem getD_set_ne (L : List Rw) (i j : Nat) (r : Rw) (h : i ≠ j) : (L.set i r).getD j kr0 = L.getD j kr0 := by rw [List.getD_eq_getElem?_getD, List.getElem?_set_ne h, ← List.getD_eq_getElem?_getD]
theorem getD_setq_self (L : List Qw) (i : Nat) (r : Qw) (h : i < L.length) : (L.set i r).getD i qw0 = r := by rw [List.getD_eq_getElem?_getD, List.getElem?_set_self h]; rfl
theorem getD_setq_ne (L : List Qw) (i j : Nat) (r : Qw) (h : i ≠ j) : (L.set i r).getD j qw0 = L.getD j qw0 := by rw [List.getD_eq_getElem?_getD, List.getElem?_set_ne h, ← List.getD_eq_getElem?_getD]
theorem getD_some {L : List Rw} {j : Nat} {q : Rw} (h : L[j]? = some q) : L.getD j kr0 = q := by rw [List.getD_eq_getElem?_getD, h]; rfl
theorem getDq_some {L : List Qw} {j : Nat} {q : Qw} (h : L[j]? = some q) : L.getD j qw0 = q := by rw [List.getD_eq_getElem?_getD, h]; rfl
theorem OwQ.zeros {w : World} {lo g : Nat} (h : w.ownsRow 0 83 3 (.slice (some ⟨g, 0, none⟩) 7 7) 7 (flQ (List.replicate 7 qw0))) (hl : lo ≤ g) : OwQ w lo (some ⟨g, 0, none⟩) 7 7 (List.replicate 7 qw0) := by
  refine ⟨h, List.length_replicate, fun x e => by have e : g = x := Option.some.inj e; omega, fun r hr => ?_, ?_⟩
  · rw [(List.mem_replicate.1 hr).2]; exact OwR.nil _ _
  · refine List.pairwise_iff_getElem.2 (fun i j hi hj _ y e => ?_)
    rw [List.getElem_replicate] at e
    exact absurd e (ofr_nil y)
theorem made_qf : (madeCells zq.cells (7 * 3)).toList = flQ (List.replicate 7 qw0) := by kernel_rfl

set_option maxHeartbeats 32000000 in
theorem cs_t5 {u0 u1 u2 u6 u7 u8 u9 u10 u11 u12 u13 u14 u15 u16 u17 u18 u19 u20 u21 u22 u23 u24 u25 u26 u27 u28 u29 u30 u31 u32 u33 u34 u35 u36 u37 u38 u39 u40 u41 u42 u43 u44 u45 u46 u47 u48 : Value} (Q : Exit → Act → World → Prop) (w0 w : World) (lo gq g5 k pn pc : Nat) (pa : Option Addr) (qs : List Qw) (ow go : Int) (R : Nat → Rw) (P : List (List Nat)) (G0 : w0.grownBy w none) (hlo : w0.heap.size ≤ lo) (hlw : lo ≤ g5) (b5 : BxS w g5 83 #[.int .i64 ow, .slice pa pn pc, .int .i64 go]) (hR : RdR w pa pn pc R) (hP : P.length = pn ∧ ∀ j, j < pn → (R j).D = P.getD j []) (hF : ∀ j, j < pn → 1 ≤ (R j).n ∧ (R j).n ≤ 100000) (hpn : pn ≤ 200) (hO : OwQ w lo (some ⟨gq, 0, none⟩) 7 7 qs) (hlt : ∀ x, Qbl (.slice (some ⟨gq, 0, none⟩) 7 7) qs x → x < g5) (hk : k < 7)
    (hQ : ∀ (z6 z7 z8 z21 z22 z23 z24 z25 z26 z27 z28 z29 z30 z31 z32 z33 z34 z35 z36 z37 z38 z39 z40 z41 z42 z43 z44 : Value) (q : Qw) (w' : World), OwQ w' lo (some ⟨gq, 0, none⟩) 7 7 (qs.set k q) → q.d = ⟨ow, go, P⟩ → w0.grownBy w' none → Q .normal (Act.mk (List.toArray (u0 :: u1 :: u2 :: (.slice (some ⟨gq, 0, none⟩) 7 7) :: (.int .i64 (k : Int)) :: (.pointer (some ⟨g5, 0, none⟩)) :: z6 :: z7 :: z8 :: u9 :: u10 :: u11 :: u12 :: u13 :: u14 :: u15 :: u16 :: u17 :: u18 :: u19 :: u20 :: z21 :: z22 :: z23 :: z24 :: z25 :: z26 :: z27 :: z28 :: z29 :: z30 :: z31 :: z32 :: z33 :: z34 :: z35 :: z36 :: z37 :: z38 :: z39 :: z40 :: z41 :: z42 :: z43 :: z44 :: u45 :: u46 :: u47 :: u48 :: [])) []) w') :
    Code.wp Try.prog (tailR 5 (Try.f57.body.getD .skip)) Q (Act.mk (List.toArray (u0 :: u1 :: u2 :: (.slice (some ⟨gq, 0, none⟩) 7 7) :: (.int .i64 (k : Int)) :: (.pointer (some ⟨g5, 0, none⟩)) :: u6 :: u7 :: u8 :: u9 :: u10 :: u11 :: u12 :: u13 :: u14 :: u15 :: u16 :: u17 :: u18 :: u19 :: u20 :: u21 :: u22 :: u23 :: u24 :: u25 :: u26 :: u27 :: u28 :: u29 :: u30 :: u31 :: u32 :: u33 :: u34 :: u35 :: u36 :: u37 :: u38 :: u39 :: u40 :: u41 :: u42 :: u43 :: u44 :: u45 :: u46 :: u47 :: u48 :: [])) []) w := by
  let pq : Exit → Act → World → Prop := bodyPost Try.prog Try.f57 (fun _ _ => True)
  conv => enter [2]; whnf
  have HQ : Hid _ := hQ
  clear hQ
  have b5l := b5.lt
  obtain ⟨i0, hi, hz0, hz1, hz2⟩ := info_parts Try.info_rw
  obtain ⟨x0, x1, x2⟩ := BxS.cell3 b5
  have hgq := hlt gq (.inl rfl)
  refine wp_seq_k fun K1 hK1 => ?_
  have HK1 : Hid _ := hK1
  clear hK1
  go_wp2_with (at_make; refine wpList_make_full _ rfl _ _ 81 rfl w.heap.size 22 i0 zr 1 Try.underlying81 hi hz0 hz1 .i64 .i64 pn pn pn rfl rfl rfl rfl (by rw [hz2]; omega) (by unfold maxLen; omega) (Nat.le_refl _) ?_; intro w4 hown g4)
  have hmk : (madeCells zr.cells (pn * 1)).toList = List.replicate pn zr := by rw [Nat.mul_one]; exact toList_madeCells_one _ _
  rw [hmk] at hown
  have hA4 := OwR.zeros (lo := w.heap.size) (own_baseG hown) (Nat.le_refl _)
  have z4 : w.heap.size < w4.heap.size := ofr_hi hA4.bef (.inl rfl)
  have b54 := b5.keep g4 (by simp)
  clear x0 x1 x2 hown hmk
  obtain ⟨x0, x1, x2⟩ := BxS.cell3 b54
  refine HK1.out _ _ ?_
  clear HK1
  refine wp_seq_k fun K2 hK2 => ?_
  have HK2 : Hid _ := hK2
  clear hK2
  go_wp2
  go_loopw [28] (fun jv wr => ∃ (j : Nat) (rs : List Rw), jv = .int .i64 j ∧ j ≤ pn ∧ OwR wr w.heap.size (some ⟨w.heap.size, 0, none⟩) pn pn rs ∧ (∀ i, i < j → (rs.getD i kr0).D = (R i).D) ∧ (∀ i, j ≤ i → rs.getD i kr0 = kr0) ∧ w.grownBy wr none ∧ w.heap.size < wr.heap.size) (fun jv _ => pn - (intOf jv).toNat)
  case atStart => exact ⟨0, _, by go_num, Nat.zero_le _, hA4, (fun i h => absurd h (by omega)), (fun i _ => by rw [List.getD_eq_getElem?_getD, List.getElem?_replicate]; split <;> rfl), g4, z4⟩
  case round =>
    obtain ⟨j, rs, rfl, hj, hr, hd, hz, hgr, hlw2⟩ := hrel
    have hll := hr.len
    have HD : Hid (∀ i, i < j → (rs.getD i kr0).D = (R i).D) := hd
    have HZ : Hid (∀ i, j ≤ i → rs.getD i kr0 = kr0) := hz
    clear hd hz
    by_cases hjl : j < pn
    · have h2 := hR.keep hgr
      obtain ⟨ba, oa, rfl, hba, ca⟩ := h2.at' (by omega)
      have d1 := ca j hjl
      have hrj := h2.data j hjl
      obtain ⟨f1, f2⟩ := hF j hjl
      obtain ⟨bd, od, hfa, hbd, _⟩ := hrj.at' (by omega)
      rw [hfa] at d1 hrj
      obtain ⟨Dk, hDk⟩ : ∃ Dk, Dk = (R j).D := ⟨_, rfl⟩
      rw [← hDk] at hrj
      have HDk : Hid (Dk = (R j).D) := hDk
      clear hDk hfa
      generalize (R j).n = nk at *
      generalize (R j).c = ck at *
      have hC := pclone_any bd od nk ck Dk wr hrj (by omega) (by omega)
      have l1 : (j : Int) < (pn : Int) := by omega
      clear ca h2
      have t1 : True := trivial
      go_wp2_with (go_at_call 49; have _t := t1; clear t1; refine hC.mono ?_; rintro e w5 ⟨ga, cg, rfl, hA5, g5'⟩; have hr5 := hr.keep g5'; have hf5 := hr5.own.frozenAt j; obtain ⟨_, _, ee, _, cc5⟩ := hr5.rdr.at' (by omega); cases ee; have hc5 := cc5 j hjl; rw [Nat.zero_add] at hc5; clear cc5)
      have hS := hr5.set (i := j) (r := ⟨some ⟨ga, 0, none⟩, nk, cg, Dk⟩) hjl (hA5.wide (by have := hgr.size; omega)) (fun i q hij hq y e => by
        rcases Nat.lt_or_ge i j with hlt' | hge
        · exact (hr.each q (List.mem_of_getElem? hq)).later2 hA5 (Nat.le_refl _) y e
        · rw [← getD_some hq, HZ.out i hge] at e
          simp [kr0, Rw.v, Value.ownBlock] at e)
      have uS := grown_set w5 w.heap.size j (Rw.mk (some ⟨ga, 0, none⟩) nk cg Dk).v
      go_roundw
      case rel =>
        refine ⟨j + 1, _, by go_num, by omega, hS, fun i hi => ?_, fun i hi => ?_, grown_far (grown_trans hgr g5') uS (fun q e => by have e := Option.some.inj e; omega), ?_⟩
        · by_cases e : i < j
          · rw [getD_set_ne _ _ _ _ (by omega)]; exact HD.out i e
          · obtain rfl : i = j := by omega
            rw [getD_set_self _ _ _ (by omega)]; exact HDk.out
        · rw [getD_set_ne _ _ _ _ (by omega)]; exact HZ.out i (by omega)
        · exact Nat.lt_of_lt_of_le (Nat.lt_of_lt_of_le hlw2 g5'.size) uS.size
      case measure => simp [intOf]; omega
    · obtain rfl : j = pn := by omega
      have l1 : ¬ (j : Int) < (j : Int) := by omega
      have b5r := b5.keep hgr (by simp)
      go_wp2
      refine HK2.out _ _ ?_
      clear HK2
      have s0 : True := trivial
      refine wp_seq_k fun K3 hK3 => ?_
      have HK3 : Hid _ := hK3
      clear hK3
      go_wp2_with (have _t := s0; clear s0; refine wpList_stC _ rfl _ _ _ rfl g5 1 83 _ #[.int .i64 ow, .slice (some ⟨w.heap.size, 0, none⟩) j j, .int .i64 go] (.slice (some ⟨w.heap.size, 0, none⟩) j j) rfl rfl b5r (stc_rows _ _ _ _ _) (by show 1 < 3; decide) rfl ?_; intro w6 b6 u6)
      have hr6 := hr.fz (Fz.of1 u6) (fun x hx e => by have := ofr_lo hr hx; have e : x = g5 := e; omega)
      have hO6 := (hO.keep hgr).fz (Fz.of1 u6) (fun x hx e => by have := hlt x hx; have e : x = g5 := e; omega)
      have G6 := grown_far (grown_trans G0 hgr) u6 (fun q e => by have e := Option.some.inj e; omega)
      clear x0 x1 x2
      obtain ⟨x0, x1, x2⟩ := BxS.cell3 b6
      refine HK3.out _ _ ?_
      clear HK3
      have s0 : True := trivial
      have hk7 : (k : Int) < 7 := by omega
      go_wp2_with (have _t := s0; clear s0; refine wpList_stQ w6 rfl _ _ rfl gq k 7 7 qs ⟨ow, (some ⟨w.heap.size, 0, none⟩), j, j, go, rs⟩ rfl rfl hO6.own hO6.len hk ?_; intro w7 ho7 u7)
      have hO7 := hO6.set ho7 u7 hk (hr6.wide (by omega)) (fun i r hir hq x hx e => by have := hlt x (.inr ⟨r, List.mem_of_getElem? hq, hx⟩); have := ofr_lo hr6 e; omega)
      refine HQ.out _ _ _ _ _ _ _ _ _ _ _ _ _ _ _ _ _ _ _ _ _ _ _ _ _ _ _ _ w7 hO7 ?_ (grown_far G6 u7 (fun q e => by have e := Option.some.inj e; have := hO6.new gq rfl; omega))
      show Qd.mk ow go (rs.map Rw.D) = _
      rw [map_D_of rs P (by rw [hr.len]; exact hP.1.symm) (fun i hi => by rw [HD.out i (by omega), hP.2 i (by omega)])]

set_option maxHeartbeats 32000000 in
theorem copySender_any (cr sz ma tu : Int) (a : Option Addr) (c : Nat) (Qs : List Qd) (w : World) (h : RdS w a 7 c Qs) (hF : ∀ q, q ∈ Qs → q.P.length ≤ 200 ∧ ∀ r, r ∈ q.P → 1 ≤ r.length ∧ r.length ≤ 100000) :
    Calls Try.prog 57 #[.agg #[.int .i64 cr, .int .i64 sz, .int .i64 ma, .int .i64 tu, .slice a 7 c]] w fun e w' => ∃ (g' : Nat) (qs' : List Qw), e = .returned (.agg #[.int .i64 cr, .int .i64 sz, .int .i64 ma, .int .i64 tu, .slice (some ⟨g', 0, none⟩) 7 7]) ∧ OwS w' w.heap.size (some ⟨g', 0, none⟩) 7 7 qs' Qs ∧ w.grownBy w' none := by
  have hlQ := h.len
  obtain ⟨F, hF1, hF2⟩ := h.ex
  have HF2 : Hid _ := hF2
  clear hF2
  have b0 := BxS.new w 38 #[.int .i64 cr, .int .i64 sz, .int .i64 ma, .int .i64 tu, .slice a 7 c]
  have g0 := World.grownBy_alloc w (.cells #[.int .i64 cr, .int .i64 sz, .int .i64 ma, .int .i64 tu, .slice a 7 c] 38) none
  generalize hw0 : w.alloc (.cells #[.int .i64 cr, .int .i64 sz, .int .i64 ma, .int .i64 tu, .slice a 7 c] 38) = w0 at b0 g0
  have hz0 : w0.heap.size = w.heap.size + 1 := by rw [← hw0]; simp
  have b1 := BxS.new w0 38 #[.int .i64 0, .int .i64 0, .int .i64 0, .int .i64 0, .slice none 0 0]
  have g1 := World.grownBy_alloc w0 (.cells #[.int .i64 0, .int .i64 0, .int .i64 0, .int .i64 0, .slice none 0 0] 38) none
  generalize hw1 : w0.alloc (.cells #[.int .i64 0, .int .i64 0, .int .i64 0, .int .i64 0, .slice none 0 0] 38) = w1 at b1 g1
  rw [hz0] at b1
  have sz1 : w.heap.size + 2 ≤ w1.heap.size := by rw [← hw1]; simp [hz0]
  have p0 := b0.keep g1 (by simp)
  have G1 := grown_trans g0 g1
  obtain ⟨i0, hi, hq0, hq1, hq2⟩ := info_parts Try.info_qu
  have i5 := Try.info_se
  have i3 := Try.info_qu3
  obtain ⟨ba, oa, rfl, hba, _⟩ := hF1.at' (by decide)
  obtain ⟨x0, x1, x2, x3, x4⟩ := BxS.cell5 p0
  go_enter Try.func57, Try.ntmps57
  refine wp_seq_k fun K0 hK0 => ?_
  have HK0 : Hid _ := hK0
  clear hK0
  go_wp2
  refine HK0.out _ _ ?_
  clear HK0
  refine wp_seq_k fun K1 hK1 => ?_
  have HK1 : Hid _ := hK1
  clear hK1
  go_wp2_with (at_make; refine wpList_make_full _ rfl _ _ 36 rfl w1.heap.size 83 i0 zq 3 Try.underlying36 hi hq0 hq1 .i64 .i64 7 7 7 rfl rfl rfl rfl (by rw [hq2]; omega) (by decide) (Nat.le_refl _) ?_; intro w2 hown g2)
  rw [made_qf] at hown
  have hO2 := OwQ.zeros (lo := w1.heap.size) (own_baseG hown) (Nat.le_refl _)
  have z2 := g2.size
  have p02 := p0.keep g2 (by simp)
  have b12 := b1.keep g2 (by simp)
  have hgl := (hO2.hi (x := w1.heap.size) (.inl rfl)).1
  clear hown x0 x1 x2 x3 x4
  obtain ⟨x0, x1, x2, x3, x4⟩ := BxS.cell5 p02
  refine HK1.out _ _ ?_
  clear HK1
  refine wp_seq_k fun K2 hK2 => ?_
  have HK2 : Hid _ := hK2
  clear hK2
  go_wp2
  go_loopw [16] (fun iv wr => ∃ (k : Nat) (qs : List Qw), iv = .int .i64 k ∧ k ≤ 7 ∧ OwQ wr w1.heap.size (some ⟨w1.heap.size, 0, none⟩) 7 7 qs ∧ (∀ i, i < k → (qs.getD i qw0).d = Qs.getD i qd0) ∧ w1.grownBy wr none) (fun iv _ => 7 - (intOf iv).toNat)
  case atStart => exact ⟨0, _, by go_num, Nat.zero_le _, hO2, (fun i h => absurd h (by omega)), g2⟩
  case round =>
    obtain ⟨k, qs, rfl, hk, hO, hd, hgr⟩ := hrel
    have HD : Hid _ := hd
    clear hd
    have Gr := grown_trans G1 hgr
    have zr := hgr.size
    have hll := hO.len
    by_cases hlk : k < 7
    · have l1 : (k : Int) < 7 := by omega
      have h2 := hF1.keep Gr
      obtain ⟨_, _, ee, _, ca⟩ := h2.at' (by decide)
      cases ee
      obtain ⟨y0, y1, y2⟩ := ca k hlk
      have hrk := h2.data k hlk
      obtain ⟨e1, e2, e3, e4⟩ := HF2.out k hlk
      have HE3 : Hid _ := e3
      have HE4 : Hid _ := e4
      have hm : Qs.getD k qd0 ∈ Qs := by rw [List.getD_eq_getElem?_getD, List.getElem?_eq_getElem (by omega)]; exact List.getElem_mem _
      obtain ⟨f1, f2⟩ := hF _ hm
      have HQD : Hid (Qs.getD k qd0 = ⟨(F k).ow, (F k).go, (Qs.getD k qd0).P⟩) := by show _ = _; rw [e1, e2]
      clear ca h2 e1 e2 e3 e4
      refine wp_seq_k fun K5 hK5 => ?_
      have HK5 : Hid _ := hK5
      clear hK5
      go_wp2
      refine HK5.out _ _ ?_
      clear HK5
      refine wp_seq_k fun K6 hK6 => ?_
      have HK6 : Hid _ := hK6
      clear hK6
      go_wp2
      refine HK6.out _ _ ?_
      clear HK6
      refine wp_seq_k fun K7 hK7 => ?_
      have HK7 : Hid _ := hK7
      clear hK7
      refine wp_block ?_
      refine wp_seq_k fun K8 hK8 => ?_
      have HK8 : Hid _ := hK8
      clear hK8
      have bn := BxS.new wr 83 #[.int .i64 0, .slice none 0 0, .int .i64 0]
      have gn := World.grownBy_alloc wr (.cells #[.int .i64 0, .slice none 0 0, .int .i64 0] 83) none
      have s0 : True := trivial
      go_wp2_with (have _t := s0; clear s0; refine wpList_stX _ rfl _ (.tmp 5) (.tmp 20) rfl wr.heap.size _ _ rfl rfl bn i3 rfl (by simp [Value.oneCell']) ?_; intro w4 b4 u4)
      have Y4 := grown_far gn u4 (fun q e => by have e := Option.some.inj e; omega)
      have G4 := grown_trans hgr Y4
      refine HK8.out _ _ ?_
      clear HK8
      refine cs_t5 _ w1 w4 w1.heap.size w1.heap.size wr.heap.size k (F k).n (F k).c (F k).a qs (F k).ow (F k).go (F k).R (Qs.getD k qd0).P G4 (Nat.le_refl _) zr b4 (hrk.keep Y4) ⟨HE3.out.symm, HE4.out⟩ (fun j hj => ?_) (by rw [HE3.out]; exact f1) (hO.keep Y4) (fun x hx => (hO.hi hx).1) hlk ?_
      · have := (hrk.data j hj).len
        rw [← this, HE4.out j hj]
        have hj2 : j < (Qs.getD k qd0).P.length := by have := HE3.out; omega
        refine f2 _ ?_
        revert hj2
        generalize (Qs.getD k qd0).P = PP
        intro hj2
        rw [List.getD_eq_getElem?_getD, List.getElem?_eq_getElem hj2]; exact List.getElem_mem _
      · intro z6 z7 z8 z21 z22 z23 z24 z25 z26 z27 z28 z29 z30 z31 z32 z33 z34 z35 z36 z37 z38 z39 z40 z41 z42 z43 z44 q w' hO' hq hg'
        simp only [Exit.inBlock, Exit.then]
        refine HK7.out _ _ ?_
        clear HK7
        have hwk : IntKind.i64.wrap ((k : Int) + 1) = (k : Int) + 1 := wrap_i64_in _ (by omega) (by omega)
        go_wp2
        go_roundw
        case rel =>
          refine ⟨k + 1, _, by go_num, by omega, hO', fun i hi => ?_, hg'⟩
          by_cases e : i < k
          · rw [getD_setq_ne _ _ _ _ (by omega)]; exact HD.out i e
          · obtain rfl : i = k := by omega
            rw [getD_setq_self _ _ _ (by omega), HQD.out, hq]
        case measure => simp [intOf]; omega
    · obtain rfl : k = 7 := by omega
      have HDD : Hid (qs.map Qw.d = Qs) := by
        show _ = _
        refine List.ext_getElem (by rw [List.length_map, hll, hlQ]) (fun i h1 h2 => ?_)
        have := HD.out i (by omega)
        rw [List.getD_eq_getElem?_getD, List.getElem?_eq_getElem (by omega), List.getD_eq_getElem?_getD, List.getElem?_eq_getElem h2] at this
        rw [List.getElem_map]
        exact this
      have q0 := p0.keep hgr (by simp)
      have q1 := b1.keep hgr (by simp)
      go_wp2
      refine HK2.out _ _ ?_
      clear HK2
      have s0 : True := trivial
      clear x0 x1 x2 x3 x4
      go_wp2_with (first
        | (have _t := s0; clear s0; refine wpList_stC _ rfl _ _ _ rfl w.heap.size 4 38 _ #[.int .i64 cr, .int .i64 sz, .int .i64 ma, .int .i64 tu, .slice (some ⟨w1.heap.size, 0, none⟩) 7 7] (.slice (some ⟨w1.heap.size, 0, none⟩) 7 7) rfl rfl q0 (stc_queues _ _ _ _ _) (by show 4 < 5; decide) rfl ?_; intro w4 b4 u4; obtain ⟨x0, x1, x2, x3, x4⟩ := BxS.cell5 b4; have q14 := q1.keep u4 (fun e => by have e := Option.some.inj e; omega); have s1 : True := trivial)
        | (have _t := s1; clear s1; refine wpList_stX _ rfl _ (.tmp 2) (.tmp 48) rfl (w.heap.size + 1) _ _ rfl rfl q14 i5 rfl (by simp [Value.oneCell']) ?_; intro w9 b9 u9))
      refine bodyPost_ret (kres1 rfl _ _ _ ⟨w.heap.size + 1, 0, none⟩ _ rfl (BxS.load (t := 38) b9 Try.underlying38 i5)) rfl ?_
      have hO9 := ((hO.far u4 (by omega)).far u9 (by omega)).wide (lo' := w.heap.size) (by omega)
      exact ⟨_, qs, rfl, ⟨hO9, HDD.out⟩, grown_far (grown_far Gr u4 (fun q e => by have e := Option.some.inj e; omega)) u9 (fun q e => by have e := Option.some.inj e; omega)⟩
end Go.Proofs.Ytlmddjkplnbadaa
