import Derived.Test.YtlmddjkplnbadaaXD
namespace Go.Proofs.Ytlmddjkplnbadaa
open Go.RowKit
set_option maxRecDepth 100000
set_option linter.unusedVariables false
set_option linter.unusedSimpArgs false
theorem step_stC (w : World) {ops : Array Oper} {o : Oper} {a : Act} {K : Act → World → Prop} {Q : Exit → Act → World → Prop} {E : Prop} (hg : o.guard = none) (t : TypeId) (p x : Operand) (hop : o.op = Op.store t p x)
    (g i : Nat) (ty : TypeId) (A A' : Array Value) (v : Value) (hp : a.eval p = .pointer (some ⟨g, i, none⟩)) (hx : a.eval x = v) (hB : BxS w g ty A)
    (hst : ∀ w' : World, (∃ u, w'.cell? ⟨g, i, none⟩ = some u) → w'.frozen? ⟨g, i, none⟩ = false → (Instr.storeAt t (.pointer (some ⟨g, i, none⟩)) v).run Try.prog w' = .ok () (w'.setCell ⟨g, i, none⟩ v)) (hi : i < A.size) (hA : A.setIfInBounds i v = A')
    (hK : ∀ w', BxS w' g ty A' → w.grownBy w' (some g) → K (a.put o.dst undef) w') :
    if Region.wanted o (yielded ops a.tmps) = true then Oper.wp Try.prog o a w K Q else E := by
  have hw : Region.wanted o (yielded ops a.tmps) = true := by simp [Region.wanted, hg]
  rw [if_pos hw]
  have hc : ∃ u, w.cell? ⟨g, i, none⟩ = some u := ⟨A[i], by rw [cell_of_row w g i _ _ _ hB]; simp [hi]⟩
  have hf := frozen_of_row w g i _ _ hB
  have hfin := hK _ (by unfold BxS; rw [heap_setCell_same w g i _ _ _ hB, hA]) (grown_set w g i v)
  unfold Oper.wp
  simp [execOp, hop, hp, hx, hst w hc hf, Result.andThen, Oper.upon]
  exact hfin

set_option maxHeartbeats 32000000 in
theorem pi_t11 {u0 u4 u5 u7 u9 u10 u11 u12 u13 u14 u15 u16 u17 u18 u19 u20 u21 u22 u23 u24 u25 u26 u27 u28 u29 u30 u31 u32 u33 u34 u35 u36 u37 u38 u39 u40 u41 u42 u43 u44 u45 u46 u47 u48 : Value} (w0 w : World) (cr sz ma tu : Int) (g3 g6 g8 gq lo j nb cb bb ob : Nat) (c7 : Nat) (qs : List Qw) (q : Qw) (Qs : List Qd) (B : List Nat) (G0 : w0.grownBy w none) (hb : Rd w (some ⟨bb, ob, none⟩) nb cb B) (hnb : 1 ≤ nb ∧ nb ≤ 100000) (b3 : BxS w g3 38 #[.int .i64 cr, .int .i64 sz, .int .i64 ma, .int .i64 tu, .slice (some ⟨gq, 0, none⟩) 7 c7]) (b6 : BxS w g6 38 #[.int .i64 0, .int .i64 0, .int .i64 0, .int .i64 0, .slice none 0 0]) (b8 : BxS w g8 83 #[.int .i64 q.ow, .slice q.a q.n q.c, .int .i64 q.go]) (hO : OwS w lo (some ⟨gq, 0, none⟩) 7 c7 qs Qs) (hj : qs[j]? = some q) (h36 : w0.heap.size ≤ g3 ∧ g3 < g6 ∧ g6 < lo) (hlo : lo ≤ g8) (hlt : ∀ x, Qbl (.slice (some ⟨gq, 0, none⟩) 7 c7) qs x → x < g8) (hqn : q.n ≤ 200) :
    Code.wp Try.prog (tailR 11 (Try.f27.body.getD .skip)) (bodyPost Try.prog Try.f27 (fun e w' => ∃ (a' : Option Addr) (n' c' : Nat) (qs' : List Qw), e = .returned (.tuple #[.agg #[.int .i64 cr, .int .i64 sz, .int .i64 ma, .int .i64 tu, .slice a' n' c'], .int .i64 0]) ∧ OwS w' w0.heap.size a' n' c' qs' (Qs.set j ⟨q.ow, q.go, q.rs.map Rw.D ++ [B]⟩) ∧ w0.grownBy w' none)) (Act.mk (List.toArray (u0 :: (.int .i64 (j : Int)) :: (.slice (some ⟨bb, ob, none⟩) nb cb) :: (.pointer (some ⟨g3, 0, none⟩)) :: u4 :: u5 :: (.pointer (some ⟨g6, 0, none⟩)) :: u7 :: (.pointer (some ⟨g8, 0, none⟩)) :: u9 :: u10 :: u11 :: u12 :: u13 :: u14 :: u15 :: u16 :: u17 :: u18 :: u19 :: u20 :: u21 :: u22 :: u23 :: u24 :: u25 :: u26 :: u27 :: u28 :: u29 :: u30 :: u31 :: u32 :: u33 :: u34 :: u35 :: u36 :: u37 :: u38 :: u39 :: u40 :: u41 :: u42 :: u43 :: u44 :: u45 :: u46 :: u47 :: u48 :: [])) []) w := by
  conv => enter [2]; whnf
  refine wp_seq_k fun K1 hK1 => ?_
  have HK1 : Hid _ := hK1
  clear hK1
  have i5 := Try.info_se
  have i3 := Try.info_qu3
  have hl := hO.o.len
  have hj7 : j < 7 := by have := (List.getElem?_eq_some_iff.1 hj).1; omega
  have hj7' : (j : Int) < 7 := by omega
  have hmem := List.mem_of_getElem? hj
  have hgq := hO.o.hi (x := gq) (.inl rfl)
  have hgq8 := hlt gq (.inl rfl)
  have b8l := b8.lt
  have SD := grown_drew w none
  have SX := b8.keep SD (by simp)
  refine wp_regionL (fun wz => BxS wz g8 83 #[.int .i64 q.ow, .slice q.a q.n q.c, .int .i64 q.go]) [7] #[false, false, false, false, false, false, false, false] rfl (by kernel_rfl) ?_
  refine wpAnyZ_take [1, 5, 7] 0 (.pointer (some ⟨g8, 1, none⟩)) rfl (by kernel_rfl) (fun _ _ _ h => h) SX rfl (by intro wz hz; obtain ⟨v0, v1, v2⟩ := BxS.cell3 hz; go_simp) ?_
  try simp only [List.getElem_toArray, List.getElem_cons_succ, List.getElem_cons_zero, Act.put, List.setIfInBounds_toArray, List.set_cons_zero, List.set_cons_succ]
  refine wpAnyZ_take [5, 7] 1 (.slice q.a q.n q.c) rfl (by kernel_rfl) (fun _ _ _ h => h) SX rfl (by intro wz hz; obtain ⟨v0, v1, v2⟩ := BxS.cell3 hz; go_simp) ?_
  try simp only [List.getElem_toArray, List.getElem_cons_succ, List.getElem_cons_zero, Act.put, List.setIfInBounds_toArray, List.set_cons_zero, List.set_cons_succ]
  refine wpAnyZ_take [3, 4, 5, 7] 2 (.slice (some ⟨bb, ob, none⟩) nb cb) rfl (by kernel_rfl) (fun _ _ _ h => h) SX rfl (by intro wz hz; obtain ⟨v0, v1, v2⟩ := BxS.cell3 hz; go_simp) ?_
  try simp only [List.getElem_toArray, List.getElem_cons_succ, List.getElem_cons_zero, Act.put, List.setIfInBounds_toArray, List.set_cons_zero, List.set_cons_succ]
  have hO4 := hO.keep SD
  have hb4 := hb.keep SD
  have z4 := SD.size
  generalize w.drew = w4 at *
  refine wpAnyZ_oneB 3 rfl (by kernel_rfl) (fun K hK => ?_)
  refine step_joinX rfl _ _ rfl none 0 0 w4.heap.size [] rfl (ans_nil _ _) (Nat.le_refl _) ⟨bb, ob, none⟩ nb cb B rfl hb4 (by omega) (by omega) ?_
  intro a5 c5 w5 hA5 y5
  have y5 : w4.grownBy w5 none := y5
  rw [List.nil_append, Nat.zero_add] at hA5
  rw [Nat.zero_add]
  have z5 := y5.size
  have hO5 := hO4.keep y5
  have SX5 := SX.keep y5 (by simp)
  refine hK _ _ (fun _ => SX5) ?_
  try simp only [List.getElem_toArray, List.getElem_cons_succ, List.getElem_cons_zero, Act.put, List.setIfInBounds_toArray, List.set_cons_zero, List.set_cons_succ]
  refine wpAnyZ_oneB 4 rfl (by kernel_rfl) (fun K hK => ?_)
  go_simp
  have gA := World.grownBy_alloc w5 (.cells #[.slice a5 nb c5] 22) none
  refine hK _ _ (fun _ => SX5.keep gA (by simp)) ?_
  try simp only [List.getElem_toArray, List.getElem_cons_succ, List.getElem_cons_zero, Act.put, List.setIfInBounds_toArray, List.set_cons_zero, List.set_cons_succ]
  have hOr := hO5.o.each q hmem
  refine wpAnyZ_oneB 5 rfl (by kernel_rfl) (fun K hK => ?_)
  refine step_psR w5 lo (⟨a5, nb, c5, B⟩ : Rw) rfl _ _ rfl q.a q.n q.c q.rs rfl hOr (by omega) rfl (by omega) (hA5.wide (by omega)) (fun r hr y e => ((hO4.o.each q hmem).each r hr).later2 hA5 (Nat.le_refl _) y e) ?_
  intro gx cx w8 hR8 u8 hgx
  have hng8 : some g8 ≠ (Value.slice q.a q.n q.c).ownBlock := fun e => by have := hlt g8 (.inr ⟨q, hmem, .inl e.symm⟩); omega
  have SX8 := SX5.keep u8 hng8
  refine hK _ _ (fun _ => SX8) ?_
  try simp only [List.getElem_toArray, List.getElem_cons_succ, List.getElem_cons_zero, Act.put, List.setIfInBounds_toArray, List.set_cons_zero, List.set_cons_succ]
  refine wpAnyZ_take [7] 6 (.pointer (some ⟨g8, 1, none⟩)) rfl (by kernel_rfl) (fun _ _ _ h => h) SX8 rfl (by intro wz hz; obtain ⟨v0, v1, v2⟩ := BxS.cell3 hz; go_simp) ?_
  try simp only [List.getElem_toArray, List.getElem_cons_succ, List.getElem_cons_zero, Act.put, List.setIfInBounds_toArray, List.set_cons_zero, List.set_cons_succ]
  refine wpAnyZ_oneB 7 rfl (by kernel_rfl) (fun K hK => ?_)
  refine step_stC _ rfl _ _ _ rfl g8 1 83 _ #[.int .i64 q.ow, .slice (some ⟨gx, 0, none⟩) (q.n + 1) cx, .int .i64 q.go] (.slice (some ⟨gx, 0, none⟩) (q.n + 1) cx) rfl rfl SX8 (stc_rows _ _ _ _ _) (by show 1 < 3; decide) rfl ?_
  intro w9 b9 u9
  refine hK _ _ (fun h => absurd (by decide) h) ?_
  try simp only [List.getElem_toArray, List.getElem_cons_succ, List.getElem_cons_zero, Act.put, List.setIfInBounds_toArray, List.set_cons_zero, List.set_cons_succ]
  refine wpAnyZ_doneB (by kernel_rfl) ?_ _
  have F9 : Fz (fun x => (Value.slice q.a q.n q.c).ownBlock = some x ∨ x = g8) w5 w9 := ((Fz.refl _ w5).step u8 (fun k e _ => .inl e)).step u9 (fun k e _ => .inr (Option.some.inj e).symm)
  have hrow := hO5.o.rowAt F9 (by rintro (e | e); exact hO5.o.row_ne hOr (.inl e) rfl; omega)
  have hR9 := hR8.fz (Fz.of1 u9) (fun x hx e => by
    have e : x = g8 := e
    rcases hx with hx | ⟨s, hs, hx⟩
    · have hx : gx = x := Option.some.inj hx
      rcases hgx with h1 | h1
      · exact hng8 (by rw [h1, hx, e])
      · omega
    · rcases List.mem_append.1 hs with hs | hs
      · have := hlt x (.inr ⟨q, hmem, .inr ⟨s, hs, hx⟩⟩); omega
      · rw [List.mem_singleton.1 hs] at hx
        have := hA5.new x hx
        omega)
  have G9 : w0.grownBy w9 none := grown_far (grown_far (grown_trans (grown_trans G0 SD) y5) u8 (fun x e => by have := (hO5.o.hi (.inr ⟨q, hmem, .inl e⟩)).2; omega)) u9 (fun q e => by have e := Option.some.inj e; omega)
  have b39 : BxS w9 g3 38 #[.int .i64 cr, .int .i64 sz, .int .i64 ma, .int .i64 tu, .slice (some ⟨gq, 0, none⟩) 7 c7] := ((b3.keep SD (by simp)).keep y5 (by simp)).fz F9 (by rintro (e | e); have := (hO5.o.hi (.inr ⟨q, hmem, .inl e⟩)).2; omega; omega)
  have b69 : BxS w9 g6 38 #[.int .i64 0, .int .i64 0, .int .i64 0, .int .i64 0, .slice none 0 0] := ((b6.keep SD (by simp)).keep y5 (by simp)).fz F9 (by rintro (e | e); have := (hO5.o.hi (.inr ⟨q, hmem, .inl e⟩)).2; omega; omega)
  obtain ⟨x0, x1, x2, x3, x4⟩ := BxS.cell5 b39
  obtain ⟨v0, v1, v2⟩ := BxS.cell3 b9
  refine HK1.out _ _ ?_
  clear HK1
  refine wp_seq_k fun K2 hK2 => ?_
  have HK2 : Hid _ := hK2
  clear hK2
  have s0 : True := trivial
  go_wp2_with (have _t := s0; clear s0; refine wpList_stQ w9 rfl _ _ rfl gq j 7 c7 qs ⟨q.ow, some ⟨gx, 0, none⟩, q.n + 1, cx, q.go, q.rs ++ [⟨a5, nb, c5, B⟩]⟩ rfl rfl hrow hl hj7 ?_; intro w10 ho10 u10)
  have hO10 := hO5.o.put (q' := ⟨q.ow, some ⟨gx, 0, none⟩, q.n + 1, cx, q.go, q.rs ++ [⟨a5, nb, c5, B⟩]⟩) hj7 F9 (fun i r hij hr x hx e => by
      rcases e with e | e
      · exact (OwQ.sep hO5.o hij hr hj) x hx (.inl e)
      · have := hlt x (.inr ⟨r, List.mem_of_getElem? hr, hx⟩); omega) hR9 (fun i r hij hr x hx e => by
    have hxl := hlt x (.inr ⟨r, List.mem_of_getElem? hr, hx⟩)
    rcases e with e | ⟨s, hs, e⟩
    · have e : gx = x := Option.some.inj e
      rcases hgx with h1 | h1
      · exact (OwQ.sep hO5.o hij hr hj) x hx (.inl (by rw [← e]; exact h1))
      · omega
    · rcases List.mem_append.1 hs with hs | hs
      · exact (OwQ.sep hO5.o hij hr hj) x hx (.inr ⟨s, hs, e⟩)
      · rw [List.mem_singleton.1 hs] at e
        have := hA5.new x e
        omega) hrow ho10 u10
  clear x0 x1 x2 x3 x4 v0 v1 v2
  have b310 := b39.keep u10 (fun e => by have e := Option.some.inj e; omega)
  have b610 := b69.keep u10 (fun e => by have e := Option.some.inj e; omega)
  have G10 := grown_far G9 u10 (fun q e => by have e := Option.some.inj e; omega)
  obtain ⟨x0, x1, x2, x3, x4⟩ := BxS.cell5 b310
  refine HK2.out _ _ ?_
  clear HK2
  have s0 : True := trivial
  go_wp2_with (have _t := s0; clear s0; refine wpList_stX _ rfl _ (.tmp 6) (.tmp 48) rfl g6 _ _ rfl rfl b610 i5 rfl (by simp [Value.oneCell']) ?_; intro w11 b11 u11; skip)
  refine bodyPost_ret (results_cell1t rfl _ _ _ ⟨g6, 0, none⟩ _ (.int .i64 0) rfl (BxS.load (t := 38) b11 Try.underlying38 i5) rfl) rfl ?_
  refine ⟨some ⟨gq, 0, none⟩, 7, c7, _, rfl, ⟨(hO10.far u11 (by omega)).wide (by have := G0.size; omega), ?_⟩, grown_far G10 u11 (fun q e => by have e := Option.some.inj e; omega)⟩
  rw [List.map_set, hO.d]
  congr 1
  show Qd.mk q.ow q.go ((q.rs ++ [(⟨a5, nb, c5, B⟩ : Rw)]).map Rw.D) = _
  rw [List.map_append]
  rfl

set_option maxHeartbeats 32000000 in
theorem rput_any (cr sz ma tu : Int) (a : Option Addr) (n c : Nat) (Qs : List Qd) (ch : Int) (b : Option Addr) (nb cb : Nat) (B : List Nat) (w : World) (h : RdS w a n c Qs) (hb : Rd w b nb cb B) (hF : FitQ 140737488351232 Qs) (hnb : nb ≤ 140737488351232) :
    Calls Try.prog 27 #[.agg #[.int .i64 cr, .int .i64 sz, .int .i64 ma, .int .i64 tu, .slice a n c], .int .i64 ch, .slice b nb cb] w fun e w' => ∃ (a' : Option Addr) (n' c' : Nat) (qs' : List Qw), e = .returned (.tuple #[.agg #[.int .i64 (ptX cr sz ma tu Qs cr), .int .i64 (ptX cr sz ma tu Qs sz), .int .i64 (ptX cr sz ma tu Qs ma), .int .i64 (ptX cr sz ma tu Qs tu), .slice a' n' c'], .int .i64 (ptE cr sz ma tu Qs ch B : Int)]) ∧ OwS w' w.heap.size a' n' c' qs' (ptV cr sz ma tu Qs ch B) ∧ w.grownBy w' none := by
  have hlQ := h.len
  have hlB := hb.len
  have b0 := BxS.new w 38 #[.int .i64 cr, .int .i64 sz, .int .i64 ma, .int .i64 tu, .slice a n c]
  have g0 := World.grownBy_alloc w (.cells #[.int .i64 cr, .int .i64 sz, .int .i64 ma, .int .i64 tu, .slice a n c] 38) none
  generalize hw0 : w.alloc (.cells #[.int .i64 cr, .int .i64 sz, .int .i64 ma, .int .i64 tu, .slice a n c] 38) = w0 at b0 g0
  have hz0 : w0.heap.size = w.heap.size + 1 := by rw [← hw0]; simp
  have b1 := BxS.new w0 38 #[.int .i64 0, .int .i64 0, .int .i64 0, .int .i64 0, .slice none 0 0]
  have g1 := World.grownBy_alloc w0 (.cells #[.int .i64 0, .int .i64 0, .int .i64 0, .int .i64 0, .slice none 0 0] 38) none
  generalize hw1 : w0.alloc (.cells #[.int .i64 0, .int .i64 0, .int .i64 0, .int .i64 0, .slice none 0 0] 38) = w1 at b1 g1
  rw [hz0] at b1
  have sz1 : w.heap.size + 2 ≤ w1.heap.size := by rw [← hw1]; simp [hz0]
  have p0 := b0.keep g1 (by simp)
  have G1 := grown_trans g0 g1
  have i5 := Try.info_se
  obtain ⟨x0, x1, x2, x3, x4⟩ := BxS.cell5 p0
  have kM := rsenderMay2_any cr sz ma tu a n c Qs w1 (h.keep G1) hF
  have s0 : True := trivial
  cases hS : seD cr sz ma tu Qs with
  | false =>
    have HE : Hid (ptE cr sz ma tu Qs ch B = 11) := by show _ = _; unfold ptE; rw [hS]; rfl
    have HV : Hid (ptV cr sz ma tu Qs ch B = []) := by show _ = _; unfold ptV; rw [hS]; rfl
    have HX : Hid (∀ z, ptX cr sz ma tu Qs z = 0) := fun z => by unfold ptX; rw [hS]; rfl
    rw [hS] at kM
    go_enter Try.func27, Try.ntmps27
    go_wp2_with (first
      | (go_at_call 53; have _t := s0; clear s0; refine kM.mono ?_; rintro e w2 ⟨rfl, y2⟩; have q0 := p0.keep y2 (by simp); have q1 := b1.keep y2 (by simp); have z2 := y2.size; clear x0 x1 x2 x3 x4; obtain ⟨x0, x1, x2, x3, x4⟩ := BxS.cell5 q0; have s1 : True := trivial)
      | (have _t := s1; clear s1; refine wpList_stX _ rfl _ (.tmp 6) (.tmp 12) rfl (w.heap.size + 1) _ _ rfl rfl q1 i5 rfl (by simp [Value.oneCell']) ?_; intro w9 b9 u9; skip))
    refine bodyPost_ret (results_cell1t rfl _ _ _ ⟨(w.heap.size + 1), 0, none⟩ _ (.int .i64 11) rfl (BxS.load (t := 38) b9 Try.underlying38 i5) rfl) rfl ?_
    rw [HE.out, HV.out, HX.out, HX.out, HX.out, HX.out]
    exact ⟨none, 0, 0, [], rfl, OwS.nil _ _, grown_far (grown_trans G1 y2) u9 (fun q e => by have e := Option.some.inj e; omega)⟩
  | true =>
    rw [hS] at kM
    obtain ⟨hl7, hq7⟩ := seD_ok hS
    have hn7 : n = 7 := by omega
    subst hn7
    have kC := fun wz hz => senderOf_any cr sz ma tu a 7 c Qs wz hz hF (fun q hq => by have := (hq7 q hq).1; omega) (by decide)
    cases hW : wiB ch 6 with
    | false =>
      obtain ⟨HE, HV, HX⟩ := pt_bad (ch := ch) (B := B) hS (e := 2) (by unfold ptE; rw [hS, hW]; rfl) (by decide)
      have hcc : ch < 0 ∨ (¬ ch < 0 ∧ 6 < ch) := by
        have h1 : ¬ (0 ≤ ch ∧ ch ≤ 6) := of_decide_eq_false hW
        omega
      rcases hcc with hc1 | ⟨hc1, hc2⟩
      · go_enter Try.func27, Try.ntmps27
        go_wp2_with (first
          | (go_at_call 53; have _t := s0; clear s0; refine kM.mono ?_; rintro e w2 ⟨rfl, y2⟩; have q0 := p0.keep y2 (by simp); have q1 := b1.keep y2 (by simp); have z2 := y2.size; clear x0 x1 x2 x3 x4; obtain ⟨x0, x1, x2, x3, x4⟩ := BxS.cell5 q0; have s1 : True := trivial)
          | (go_at_call 54; have _t := s1; clear s1; refine (kC _ (h.keep (grown_trans G1 y2))).mono ?_; rintro e w3 ⟨a3, c7, qs3, rfl, hO3, y3⟩; have q0 := q0.keep y3 (by simp); have q1 := q1.keep y3 (by simp); have z3 := y3.size; clear x0 x1 x2 x3 x4; have s2 : True := trivial)
          | (have _t := s2; clear s2; refine wpList_stX _ rfl _ (.tmp 3) (.tmp 14) rfl w.heap.size _ _ rfl rfl q0 i5 rfl (by simp [Value.oneCell']) ?_; intro w4 q0 u4; obtain ⟨x0, x1, x2, x3, x4⟩ := BxS.cell5 q0; have hO4 := hO3.far u4 (by omega); have q1 := q1.keep u4 (fun e => by have e := Option.some.inj e; omega); have G4 := grown_far (grown_trans (grown_trans G1 y2) y3) u4 (fun q e => by have e := Option.some.inj e; omega); have z4 := u4.size; have s3 : True := trivial)
          | (have _t := s3; clear s3; refine wpList_stX _ rfl _ (.tmp 6) (.tmp 21) rfl (w.heap.size + 1) _ _ rfl rfl q1 i5 rfl (by simp [Value.oneCell']) ?_; intro w9 b9 u9; skip))
        refine bodyPost_ret (results_cell1t rfl _ _ _ ⟨(w.heap.size + 1), 0, none⟩ _ (.int .i64 2) rfl (BxS.load (t := 38) b9 Try.underlying38 i5) rfl) rfl ?_
        rw [HE.out, HV.out, HX.out, HX.out, HX.out, HX.out]
        exact ⟨_, _, _, _, rfl, (hO4.far u9 (by omega)).wide (by omega), grown_far G4 u9 (fun q e => by have e := Option.some.inj e; omega)⟩
      · go_enter Try.func27, Try.ntmps27
        go_wp2_with (first
          | (go_at_call 53; have _t := s0; clear s0; refine kM.mono ?_; rintro e w2 ⟨rfl, y2⟩; have q0 := p0.keep y2 (by simp); have q1 := b1.keep y2 (by simp); have z2 := y2.size; clear x0 x1 x2 x3 x4; obtain ⟨x0, x1, x2, x3, x4⟩ := BxS.cell5 q0; have s1 : True := trivial)
          | (go_at_call 54; have _t := s1; clear s1; refine (kC _ (h.keep (grown_trans G1 y2))).mono ?_; rintro e w3 ⟨a3, c7, qs3, rfl, hO3, y3⟩; have q0 := q0.keep y3 (by simp); have q1 := q1.keep y3 (by simp); have z3 := y3.size; clear x0 x1 x2 x3 x4; have s2 : True := trivial)
          | (have _t := s2; clear s2; refine wpList_stX _ rfl _ (.tmp 3) (.tmp 14) rfl w.heap.size _ _ rfl rfl q0 i5 rfl (by simp [Value.oneCell']) ?_; intro w4 q0 u4; obtain ⟨x0, x1, x2, x3, x4⟩ := BxS.cell5 q0; have hO4 := hO3.far u4 (by omega); have q1 := q1.keep u4 (fun e => by have e := Option.some.inj e; omega); have G4 := grown_far (grown_trans (grown_trans G1 y2) y3) u4 (fun q e => by have e := Option.some.inj e; omega); have z4 := u4.size; have s3 : True := trivial)
          | (have _t := s3; clear s3; refine wpList_stX _ rfl _ (.tmp 6) (.tmp 21) rfl (w.heap.size + 1) _ _ rfl rfl q1 i5 rfl (by simp [Value.oneCell']) ?_; intro w9 b9 u9; skip))
        refine bodyPost_ret (results_cell1t rfl _ _ _ ⟨(w.heap.size + 1), 0, none⟩ _ (.int .i64 2) rfl (BxS.load (t := 38) b9 Try.underlying38 i5) rfl) rfl ?_
        rw [HE.out, HV.out, HX.out, HX.out, HX.out, HX.out]
        exact ⟨_, _, _, _, rfl, (hO4.far u9 (by omega)).wide (by omega), grown_far G4 u9 (fun q e => by have e := Option.some.inj e; omega)⟩
    | true =>
      have hch : 0 ≤ ch ∧ ch ≤ 6 := of_decide_eq_true hW
      obtain ⟨j, rfl⟩ : ∃ j : Nat, ch = (j : Int) := ⟨ch.toNat, by omega⟩
      have kP := fun wz hz => ronePacket_any b nb cb B wz hz (by omega)
      have hc1 : ¬ (j : Int) < 0 := by omega
      have hc2 : ¬ (6 : Int) < (j : Int) := by omega
      cases hP : onP B with
      | false =>
        rw [hP] at kP
        obtain ⟨HE, HV, HX⟩ := pt_bad (ch := (j : Int)) (B := B) hS (e := 8) (by unfold ptE; rw [hS, hW, hP]; rfl) (by decide)
        go_enter Try.func27, Try.ntmps27
        go_wp2_with (first
          | (go_at_call 53; have _t := s0; clear s0; refine kM.mono ?_; rintro e w2 ⟨rfl, y2⟩; have q0 := p0.keep y2 (by simp); have q1 := b1.keep y2 (by simp); have z2 := y2.size; clear x0 x1 x2 x3 x4; obtain ⟨x0, x1, x2, x3, x4⟩ := BxS.cell5 q0; have s1 : True := trivial)
          | (go_at_call 54; have _t := s1; clear s1; refine (kC _ (h.keep (grown_trans G1 y2))).mono ?_; rintro e w3 ⟨a3, c7, qs3, rfl, hO3, y3⟩; have q0 := q0.keep y3 (by simp); have q1 := q1.keep y3 (by simp); have z3 := y3.size; clear x0 x1 x2 x3 x4; have s2 : True := trivial)
          | (have _t := s2; clear s2; refine wpList_stX _ rfl _ (.tmp 3) (.tmp 14) rfl w.heap.size _ _ rfl rfl q0 i5 rfl (by simp [Value.oneCell']) ?_; intro w4 q0 u4; obtain ⟨x0, x1, x2, x3, x4⟩ := BxS.cell5 q0; have hO4 := hO3.far u4 (by omega); have q1 := q1.keep u4 (fun e => by have e := Option.some.inj e; omega); have G4 := grown_far (grown_trans (grown_trans G1 y2) y3) u4 (fun q e => by have e := Option.some.inj e; omega); have z4 := u4.size; have s3 : True := trivial)
          | (go_at_call 55; have _t := s3; clear s3; refine (kP _ (hb.keep G4)).mono ?_; rintro e w6 ⟨rfl, y6⟩; have hO6 := hO4.keep y6; have q0 := q0.keep y6 (by simp); have q1 := q1.keep y6 (by simp); clear x0 x1 x2 x3 x4; obtain ⟨x0, x1, x2, x3, x4⟩ := BxS.cell5 q0; have G6 := grown_trans G4 y6; have z6 := y6.size; have s5 : True := trivial)
          | (have _t := s5; clear s5; refine wpList_stX _ rfl _ (.tmp 6) (.tmp 25) rfl (w.heap.size + 1) _ _ rfl rfl q1 i5 rfl (by simp [Value.oneCell']) ?_; intro w9 b9 u9; skip))
        refine bodyPost_ret (results_cell1t rfl _ _ _ ⟨(w.heap.size + 1), 0, none⟩ _ (.int .i64 8) rfl (BxS.load (t := 38) b9 Try.underlying38 i5) rfl) rfl ?_
        rw [HE.out, HV.out, HX.out, HX.out, HX.out, HX.out]
        exact ⟨_, _, _, _, rfl, (hO6.far u9 (by omega)).wide (by omega), grown_far G6 u9 (fun q e => by have e := Option.some.inj e; omega)⟩
      | true =>
        rw [hP] at kP
        have hBl := onP_len hP
        obtain ⟨bb, ob, rfl, _, _⟩ := hb.at' (by omega)
        have hj7 : j < 7 := by omega
        have hj7' : (j : Int) < 7 := by omega
        have HQ0 : Hid (ptQ Qs (j : Int) = Qs.getD j qd0) := rfl
        go_enter Try.func27, Try.ntmps27
        refine wp_seq_k fun K0 hK0 => ?_
        have HK0 : Hid _ := hK0
        clear hK0
        go_wp2
        refine HK0.out _ _ ?_
        clear HK0
        refine wp_seq_k fun K1 hK1 => ?_
        have HK1 : Hid _ := hK1
        clear hK1
        go_wp2_with (go_at_call 53; have _t := s0; clear s0; refine kM.mono ?_; rintro e w2 ⟨rfl, y2⟩; have q0 := p0.keep y2 (by simp); have q1 := b1.keep y2 (by simp); have z2 := y2.size; clear x0 x1 x2 x3 x4; obtain ⟨x0, x1, x2, x3, x4⟩ := BxS.cell5 q0; have s1 : True := trivial)
        refine HK1.out _ _ ?_
        clear HK1
        refine wp_seq_k fun K2 hK2 => ?_
        have HK2 : Hid _ := hK2
        clear hK2
        go_wp2_with (first
          | (go_at_call 54; have _t := s1; clear s1; refine (kC _ (h.keep (grown_trans G1 y2))).mono ?_; rintro e w3 ⟨a3, c7, qs3, rfl, hO3, y3⟩; have q0 := q0.keep y3 (by simp); have q1 := q1.keep y3 (by simp); have z3 := y3.size; clear x0 x1 x2 x3 x4; have s2 : True := trivial)
          | (have _t := s2; clear s2; refine wpList_stX _ rfl _ (.tmp 3) (.tmp 14) rfl w.heap.size _ _ rfl rfl q0 i5 rfl (by simp [Value.oneCell']) ?_; intro w4 q0 u4; obtain ⟨x0, x1, x2, x3, x4⟩ := BxS.cell5 q0; have hO4 := hO3.far u4 (by omega); have q1 := q1.keep u4 (fun e => by have e := Option.some.inj e; omega); have G4 := grown_far (grown_trans (grown_trans G1 y2) y3) u4 (fun q e => by have e := Option.some.inj e; omega); have z4 := u4.size; have s3 : True := trivial))
        refine HK2.out _ _ ?_
        clear HK2
        refine wp_seq_k fun K3 hK3 => ?_
        have HK3 : Hid _ := hK3
        clear hK3
        go_wp2
        refine HK3.out _ _ ?_
        clear HK3
        refine wp_seq_k fun K4 hK4 => ?_
        have HK4 : Hid _ := hK4
        clear hK4
        go_wp2_with (go_at_call 55; have _t := s3; clear s3; refine (kP _ (hb.keep G4)).mono ?_; rintro e w6 ⟨rfl, y6⟩; have hO6 := hO4.keep y6; have q0 := q0.keep y6 (by simp); have q1 := q1.keep y6 (by simp); clear x0 x1 x2 x3 x4; obtain ⟨x0, x1, x2, x3, x4⟩ := BxS.cell5 q0; have G6 := grown_trans G4 y6; have z6 := y6.size; have s5 : True := trivial)
        refine HK4.out _ _ ?_
        clear HK4
        have hll := hO6.o.len
        obtain ⟨gq, rfl⟩ := hO6.o.someQ (by decide)
        obtain ⟨q, hq⟩ : ∃ q, qs3[j]? = some q := ⟨_, List.getElem?_eq_getElem (by omega)⟩
        obtain ⟨y0, y1, y2'⟩ := hO6.o.cell hq
        have hmem := List.mem_of_getElem? hq
        have hqd : Qs.getD j qd0 = q.d := by rw [← hO6.d, List.getD_eq_getElem?_getD, List.getElem?_map, hq]; rfl
        have hPq : (ptQ Qs (j : Int)).P = q.rs.map Rw.D := by rw [HQ0.out, hqd]; rfl
        have hqn := (hO6.o.each q hmem).len
        have HPl : Hid ((ptQ Qs (j : Int)).P.length = q.n) := by show _ = _; rw [hPq, List.length_map]; exact hqn
        have hq200 : q.n ≤ 200 := by
          have h1 := (hq7 (Qs.getD j qd0) (by rw [List.getD_eq_getElem?_getD, List.getElem?_eq_getElem (by omega)]; exact List.getElem_mem _)).1
          have h2 := HPl.out
          rw [HQ0.out] at h2
          omega
        have HQD : Hid (ptQ Qs (j : Int) = q.d) := by show _ = _; rw [HQ0.out, hqd]
        clear hqd hPq hqn
        refine wp_seq_k fun K5 hK5 => ?_
        have HK5 : Hid _ := hK5
        clear hK5
        have i3 := Try.info_qu3
        have bn := BxS.new w6 83 #[.int .i64 0, .slice none 0 0, .int .i64 0]
        have gn := World.grownBy_alloc w6 (.cells #[.int .i64 0, .slice none 0 0, .int .i64 0] 83) none
        have s6 : True := trivial
        go_wp2_with (have _t := s6; clear s6; refine wpList_stX _ rfl _ (.tmp 8) (.tmp 30) rfl w6.heap.size _ _ rfl rfl bn i3 rfl (by simp [Value.oneCell']) ?_; intro w7 b8 u7)
        have Y7 := grown_far gn u7 (fun q e => by have e := Option.some.inj e; omega)
        have hlt : ∀ x, Qbl (.slice (some ⟨gq, 0, none⟩) 7 c7) qs3 x → x < w6.heap.size := fun x hx => (hO6.o.hi hx).1
        have hO7 := hO6.keep Y7
        have q0 := q0.keep Y7 (by simp)
        have q1 := q1.keep Y7 (by simp)
        have G7 := grown_trans G6 Y7
        clear x0 x1 x2 x3 x4 y0 y1 y2'
        obtain ⟨x0, x1, x2, x3, x4⟩ := BxS.cell5 q0
        obtain ⟨v0, v1, v2⟩ := BxS.cell3 b8
        refine HK5.out _ _ ?_
        clear HK5
        refine wp_seq_k fun K6 hK6 => ?_
        have HK6 : Hid _ := hK6
        clear hK6
        by_cases h200 : q.n = 200
        · obtain ⟨HE, HV, HX⟩ := pt_bad (ch := (j : Int)) (B := B) hS (e := 12) (by unfold ptE; rw [if_pos hS, if_pos hW, if_pos hP, if_pos (by rw [HPl.out]; exact h200)]) (by decide)
          have h200' : (200 : Int) ≤ (q.n : Int) := by omega
          have s6 : True := trivial
          clear h200
          go_wp2_with (have _t := s6; clear s6; refine wpList_stX _ rfl _ (.tmp 6) (.tmp 35) rfl (w.heap.size + 1) _ _ rfl rfl q1 i5 rfl (by simp [Value.oneCell']) ?_; intro w9 b9 u9; skip)
          refine bodyPost_ret (results_cell1t rfl _ _ _ ⟨(w.heap.size + 1), 0, none⟩ _ (.int .i64 12) rfl (BxS.load (t := 38) b9 Try.underlying38 i5) rfl) rfl ?_
          rw [HE.out, HV.out, HX.out, HX.out, HX.out, HX.out]
          exact ⟨_, _, _, _, rfl, (hO7.far u9 (by omega)).wide (by omega), grown_far G7 u9 (fun q e => by have e := Option.some.inj e; omega)⟩
        · have h200' : ¬ (200 : Int) ≤ (q.n : Int) := by omega
          have hE0 : ptE cr sz ma tu Qs (j : Int) B = 0 := by unfold ptE; rw [if_pos hS, if_pos hW, if_pos hP, if_neg (by rw [HPl.out]; exact h200)]
          have HE : Hid (ptE cr sz ma tu Qs (j : Int) B = 0) := hE0
          have HV : Hid (ptV cr sz ma tu Qs (j : Int) B = Qs.set j ⟨q.ow, q.go, q.rs.map Rw.D ++ [B]⟩) := by
            show _ = _
            unfold ptV
            rw [if_pos hS, if_pos hE0, HQD.out]
            rfl
          have HX : Hid (∀ z, ptX cr sz ma tu Qs z = z) := fun z => if_pos hS
          clear hE0 h200
          go_wp2
          refine HK6.out _ _ ?_
          rw [HE.out, HV.out, HX.out, HX.out, HX.out, HX.out]
          exact pi_t11 w w7 cr sz ma tu w.heap.size (w.heap.size + 1) w6.heap.size gq w2.heap.size j nb cb bb ob c7 qs3 q Qs B G7 (hb.keep G7) (by omega) q0 q1 b8 hO7 hq ⟨Nat.le_refl _, by omega, by omega⟩ (by omega) hlt hq200
end Go.Proofs.Ytlmddjkplnbadaa
