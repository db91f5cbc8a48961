import Derived.Test.YtlmddjkplnbadaaXE
namespace Go.Proofs.Ytlmddjkplnbadaa
open Go.RowKit
set_option maxRecDepth 100000
set_option linter.unusedVariables false
set_option linter.unusedSimpArgs false

theorem Fz.more {p q : Nat → Prop} {w w' : World} (h : Fz p w w') (hpq : ∀ x, p x → q x) : Fz q w w' := ⟨h.os, h.tape, h.output, h.size, fun k hk hn => h.block k hk (fun e => hn (hpq k e))⟩
def qw7 : Qw := ⟨-7, none, 0, 0, 0, []⟩
set_option maxHeartbeats 32000000 in
theorem ov_t4 {u0 u3 u4 u5 u6 u7 u8 u9 u10 u11 u12 u13 u14 u15 u16 u17 u18 u19 u20 u21 u22 u23 u24 u25 u26 u27 u28 u29 u30 u31 u32 u33 u34 u35 u36 u37 u38 u39 u40 u41 u42 u43 u44 u45 : Value} (Q : Exit → Act → World → Prop) (w : World) (cr sz ma tu : Int) (g1 gr lo i n c : Nat) (qs : List Qw) (q : Qw) (b1 : BxS w g1 38 #[.int .i64 cr, .int .i64 sz, .int .i64 ma, .int .i64 tu, .slice (some ⟨gr, 0, none⟩) n c]) (hrow : w.ownsRow 0 83 3 (.slice (some ⟨gr, 0, none⟩) n c) n (flQ qs)) (hl : qs.length = n) (hi : qs[i]? = some q) (hq : OwR w lo q.a q.n q.c q.rs) (hF : ∀ r, r ∈ q.rs → r.n ≤ 140737488351240) (hqn : q.n ≤ 140737488351232) (hnn : n ≤ 140737488351232)
    (hQ : ∀ (z3 z9 z10 z11 z12 z13 z14 z15 z16 z17 z18 z19 z20 z21 z22 z23 z24 z25 z26 z27 z28 z29 z30 z31 z32 z33 z34 z35 z36 z37 z38 z39 z40 z41 z42 z43 z44 z45 : Value) (w' : World), w'.ownsRow 0 83 3 (.slice (some ⟨gr, 0, none⟩) n c) n (flQ (qs.set i qw7)) → Fz (fun x => Ofr q.v q.rs x ∨ x = gr) w w' → Q .normal (Act.mk (List.toArray (u0 :: (.pointer (some ⟨g1, 0, none⟩)) :: (.int .i64 ((i : Int) + 1)) :: z3 :: u4 :: u5 :: u6 :: u7 :: u8 :: z9 :: z10 :: z11 :: z12 :: z13 :: z14 :: z15 :: z16 :: z17 :: z18 :: z19 :: z20 :: z21 :: z22 :: z23 :: z24 :: z25 :: z26 :: z27 :: z28 :: z29 :: z30 :: z31 :: z32 :: z33 :: z34 :: z35 :: z36 :: z37 :: z38 :: z39 :: z40 :: z41 :: z42 :: z43 :: z44 :: z45 :: [])) []) w') :
    Code.wp Try.prog (tailR 4 (Try.f59.body.getD .skip)) Q (Act.mk (List.toArray (u0 :: (.pointer (some ⟨g1, 0, none⟩)) :: (.int .i64 (i : Int)) :: u3 :: u4 :: u5 :: u6 :: u7 :: u8 :: u9 :: u10 :: u11 :: u12 :: u13 :: u14 :: u15 :: u16 :: u17 :: u18 :: u19 :: u20 :: u21 :: u22 :: u23 :: u24 :: u25 :: u26 :: u27 :: u28 :: u29 :: u30 :: u31 :: u32 :: u33 :: u34 :: u35 :: u36 :: u37 :: u38 :: u39 :: u40 :: u41 :: u42 :: u43 :: u44 :: u45 :: [])) []) w := by
  let pq : Exit → Act → World → Prop := bodyPost Try.prog Try.f59 (fun _ _ => True)
  conv => enter [2]; whnf
  have HQ : Hid _ := hQ
  clear hQ
  have hin : i < n := by have := (List.getElem?_eq_some_iff.1 hi).1; omega
  have hin' : (i : Int) < (n : Int) := by omega
  have hcell : ∀ wz : World, wz.ownsRow 0 83 3 (.slice (some ⟨gr, 0, none⟩) n c) n (flQ qs) → wz.cell? ⟨gr, i * 3 + 1, none⟩ = some (.slice q.a q.n q.c) := fun wz hz => by
    have := hz.cells (g := gr) rfl (i * 3 + 1) _ (by rw [flQ_at qs i q hi 1 (by decide)]; rfl)
    rwa [addr_add', Nat.zero_add] at this
  have hbr : BxS w gr 83 (w.heap[gr]?.elim #[] (fun o => match o with | .cells cs _ _ => cs | _ => #[])) := by
    rcases hrow.2 with ⟨h1, _⟩ | ⟨y, cap', cur, h1, _, hh, _⟩
    · simp at h1
    · simp only [Value.slice.injEq, Option.some.injEq, Addr.mk.injEq] at h1
      obtain ⟨⟨rfl, _⟩, _, rfl⟩ := h1
      unfold BxS
      rw [hh]
      rfl
  have hgq : ∀ x, Ofr q.v q.rs x → x ≠ gr := fun x hx => ofr_box hq hbr (by decide) (by decide) hx
  have hg1 : ∀ x, Ofr q.v q.rs x → x ≠ g1 := fun x hx => ofr_box hq b1 (by decide) (by decide) hx
  have hln := hq.len
  have hmx := hq.rdr.max
  have hle := hq.rdr.le
  have hgrlt := hbr.lt
  have hne1 : g1 ≠ gr := BxS.apart b1 hbr (by decide)
  clear hbr
  refine wp_seq_k fun K1 hK1 => ?_
  have HK1 : Hid _ := hK1
  clear hK1
  refine wp_block ?_
  refine wp_seq_k fun K2 hK2 => ?_
  have HK2 : Hid _ := hK2
  clear hK2
  go_wp2
  go_loopw [3] (fun kv wr => ∃ (k : Nat) (Y : List Value), kv = .int .i64 k ∧ k ≤ q.n ∧ wr.ownsRow 0 22 1 (.slice q.a q.n q.c) q.n Y ∧ (∀ k', k ≤ k' → Y[k']? = (flatR q.rs)[k']?) ∧ (∀ k' r, k ≤ k' → q.rs[k']? = some r → Ans wr lo r.a r.n r.c r.D) ∧ Fz (fun x => Ofr q.v q.rs x) w wr) (fun kv _ => q.n - (intOf kv).toNat)
  case atStart => exact ⟨0, flatR q.rs, by go_num, Nat.zero_le _, hq.own, (fun _ _ => rfl), (fun k' r _ hr => hq.each r (List.mem_of_getElem? hr)), Fz.refl _ _⟩
  case round =>
    obtain ⟨k, Y, rfl, hk, hy, hY, hA, hFz⟩ := hrel
    have b1r := b1.fz hFz (fun h => hg1 g1 h rfl)
    have hrowr : wr.ownsRow 0 83 3 (.slice (some ⟨gr, 0, none⟩) n c) n (flQ qs) := by
      refine ⟨hrow.1, ?_⟩
      rcases hrow.2 with h1 | ⟨g, cap', cur, h1, h2, h3, h4⟩
      · exact .inl h1
      · refine .inr ⟨g, cap', cur, h1, h2, ?_, h4⟩
        have e : g = gr := by simp only [Value.slice.injEq, Option.some.injEq, Addr.mk.injEq] at h1; exact h1.1.1.symm
        subst e
        rw [hFz.block g (Array.getElem?_eq_some_iff.1 h3).1 (fun h => hgq g h rfl)]
        exact h3
    have cq := hcell wr hrowr
    obtain ⟨x0, x1, x2, x3, x4⟩ := BxS.cell5 b1r
    have HY : Hid _ := hY
    have HA : Hid _ := hA
    clear hY hA
    by_cases hkl : k < q.n
    · have hkl' : (k : Int) < (q.n : Int) := by omega
      obtain ⟨r, hr⟩ : ∃ r, q.rs[k]? = some r := ⟨_, List.getElem?_eq_getElem (by omega)⟩
      have hmem := List.mem_of_getElem? hr
      have hAr := HA.out k r (Nat.le_refl _) hr
      obtain ⟨gp, hgp⟩ : ∃ gp, q.a = some ⟨gp, 0, none⟩ := by
        rcases hq.own.2 with ⟨h1, h2⟩ | ⟨g, cap', cur, h1, _⟩
        · omega
        · simp only [Value.slice.injEq] at h1; exact ⟨g, h1.1⟩
      have hyv : Y[k]? = some r.v := by rw [HY.out k (Nat.le_refl _)]; unfold flatR; rw [List.getElem?_map, hr]; rfl
      have hgpO : Ofr q.v q.rs gp := .inl (by show (Value.slice q.a q.n q.c).ownBlock = _; rw [hgp]; rfl)
      rw [hgp] at hy cq
      have cy : wr.cell? ⟨gp, k, none⟩ = some (.slice r.a r.n r.c) := by
        have := hy.cells (g := gp) rfl k _ hyv
        rwa [addr_add', Nat.zero_add] at this
      have hrO : ∀ x, (Value.slice r.a r.n r.c).ownBlock = some x → Ofr q.v q.rs x := fun x e => .inr ⟨r, hmem, e⟩
      have hap : ∀ y, (Value.slice r.a r.n r.c).ownBlock = some y → (Value.slice (some ⟨gp, 0, none⟩) q.n q.c).ownBlock ≠ some y := fun y e => own_apart hAr.own hy (fun e => ne_u8 e.symm) y e
      have hrn := hF r hmem
      have s0 : True := trivial
      refine wp_seq_k fun K3 hK3 => ?_
      have HK3 : Hid _ := hK3
      clear hK3
      go_wp2
      refine HK3.out _ _ ?_
      clear HK3
      refine wp_seq_k fun K4 hK4 => ?_
      have HK4 : Hid _ := hK4
      clear hK4
      refine wp_block ?_
      refine wp_seq_k fun K5 hK5 => ?_
      have HK5 : Hid _ := hK5
      clear hK5
      go_wp2_with (go_at_call 31; have _t := s0; clear s0; refine (spoil_any hAr hrn).mono ?_; rintro e w4 ⟨rfl, u4⟩)
      have F4 := Fz.ofO u4
      have b14 := b1r.fz F4 (fun e => hg1 g1 (hrO g1 e) rfl)
      have hrow4 : w4.ownsRow 0 83 3 (.slice (some ⟨gr, 0, none⟩) n c) n (flQ qs) := by
        refine hrowr.kept u4 ?_
        cases e : (Value.slice r.a r.n r.c).ownBlock with
        | none => exact .inr (by simp [Value.ownBlock])
        | some y => exact .inr (fun e2 => by have e2 : gr = y := Option.some.inj e2; exact hgq y (hrO y e) e2.symm)
      have hy4 : w4.ownsRow 0 22 1 (.slice (some ⟨gp, 0, none⟩) q.n q.c) q.n Y := by
        refine hy.kept u4 ?_
        cases e : (Value.slice r.a r.n r.c).ownBlock with
        | none => exact .inr (by simp [Value.ownBlock])
        | some y => exact .inr (hap y e)
      have gA := World.grownBy_alloc w4 (.cells #[.int .u8 9] 5) none
      have hrow5 : (w4.alloc (.cells #[.int .u8 9] 5)).ownsRow 0 83 3 (.slice (some ⟨gr, 0, none⟩) n c) n (flQ qs) := hrow4.alloc _
      have hy5 : (w4.alloc (.cells #[.int .u8 9] 5)).ownsRow 0 22 1 (.slice (some ⟨gp, 0, none⟩) q.n q.c) q.n Y := hy4.alloc _
      have b15 := b14.keep gA (by simp)
      clear x0 x1 x2 x3 x4 cq cy
      have cq4 := hcell _ hrow4
      have cq5 := hcell _ hrow5
      rw [hgp] at cq4 cq5
      obtain ⟨x0, x1, x2, x3, x4⟩ := BxS.cell5 b14
      obtain ⟨v0, v1, v2, v3, v4⟩ := BxS.cell5 b15
      have cy5 : (w4.alloc (.cells #[.int .u8 9] 5)).cell? ⟨gp, k, none⟩ = some (.slice r.a r.n r.c) := by
        have := hy5.cells (g := gp) rfl k _ hyv
        rwa [addr_add', Nat.zero_add] at this
      have fy5 := hy5.frozenAt k
      refine HK5.out _ _ ?_
      clear HK5
      go_wp2
      try simp only [Exit.inBlock, Exit.then]
      refine HK4.out _ _ ?_
      clear HK4
      have hwk : IntKind.i64.wrap ((k : Int) + 1) = (k : Int) + 1 := wrap_i64_in _ (by omega) (by unfold maxLen at hmx; omega)
      have u6 := grown_set (w4.alloc (.cells #[.int .u8 9] 5)) gp k (.slice (some ⟨w4.heap.size, 0, none⟩) 1 1)
      have hy6 := (hy5.stored k (.slice (some ⟨w4.heap.size, 0, none⟩) 1 1)).1
      rw [← hgp] at hy6
      have hz4 := u4.size
      have hzz := hFz.size
      have hF6 : Fz (fun x => Ofr q.v q.rs x) w ((w4.alloc (.cells #[.int .u8 9] 5)).setCell ⟨gp, k, none⟩ (.slice (some ⟨w4.heap.size, 0, none⟩) 1 1)) := ((hFz.step u4 (fun x e _ => hrO x e)).step gA (fun x e _ => by cases e)).step u6 (fun x e _ => by have e : gp = x := Option.some.inj e; rw [← e]; exact hgpO)
      have hA6 : ∀ k' s, k + 1 ≤ k' → q.rs[k']? = some s → Ans ((w4.alloc (.cells #[.int .u8 9] 5)).setCell ⟨gp, k, none⟩ (.slice (some ⟨w4.heap.size, 0, none⟩) 1 1)) lo s.a s.n s.c s.D := fun k' s hk' hs => by
        have hAs := HA.out k' s (by omega) hs
        have h1 : Ans w4 lo s.a s.n s.c s.D := hAs.fz F4 (fun x e e2 => by
          have hpw := List.pairwise_iff_getElem.1 hq.apart
          obtain ⟨l1, rfl⟩ := List.getElem?_eq_some_iff.1 hr
          obtain ⟨l2, rfl⟩ := List.getElem?_eq_some_iff.1 hs
          exact hpw k k' l1 l2 (by omega) x e2 e)
        exact (h1.keep gA).fz (Fz.of1 u6) (fun x e e2 => by
          have e2 : x = gp := e2
          subst e2
          exact own_apart (h1.keep gA).own hy5 (fun e => ne_u8 e.symm) x e rfl)
      clear hrow4 hrow5 hrowr hy hy4 hy5 cq4 cq5 cy5 fy5 F4 u4 gA u6 b14 b15 b1r x0 x1 x2 x3 x4 v0 v1 v2 v3 v4
      generalize (w4.alloc (.cells #[.int .u8 9] 5)).setCell ⟨gp, k, none⟩ (.slice (some ⟨w4.heap.size, 0, none⟩) 1 1) = w6 at *
      go_wp2
      go_roundw
      case rel => exact ⟨k + 1, _, by go_num, by omega, hy6, (fun k' hk' => by rw [List.getElem?_set_ne (by omega)]; exact HY.out k' (by omega)), hA6, hF6⟩
      case measure => simp [intOf]; omega
    · obtain rfl : k = q.n := by omega
      have hkl' : ¬ (q.n : Int) < (q.n : Int) := by omega
      go_wp2
      refine HK2.out _ _ ?_
      clear HK2
      have s0 : True := trivial
      go_wp2_with (have _t := s0; clear s0; refine wpList_stQ wr rfl _ _ rfl gr i n c qs qw7 rfl rfl hrowr hl hin ?_; intro w9 ho9 u9)
      try simp only [Exit.inBlock, Exit.then]
      refine HK1.out _ _ ?_
      clear HK1
      have hwi : IntKind.i64.wrap ((i : Int) + 1) = (i : Int) + 1 := wrap_i64_in _ (by omega) (by omega)
      clear x0 x1 x2 x3 x4 cq
      go_wp2
      have hF9 : Fz (fun x => Ofr q.v q.rs x ∨ x = gr) w w9 := (hFz.more (fun x h => .inl h)).step u9 (fun x e _ => .inr (Option.some.inj e).symm)
      exact HQ.out _ _ _ _ _ _ _ _ _ _ _ _ _ _ _ _ _ _ _ _ _ _ _ _ _ _ _ _ _ _ _ _ _ _ _ _ _ _ w9 ho9 hF9

set_option maxHeartbeats 32000000 in
theorem overSender_any (cr sz ma tu : Int) (a : Option Addr) (n c lo : Nat) (qs : List Qw) (Qs : List Qd) (w : World) (h : OwS w lo a n c qs Qs) (hF : FitQ 140737488351232 Qs) (hN : ∀ q, q ∈ Qs → q.P.length * 24 ≤ 140737488351232) (hn : n * 40 ≤ 140737488351232) :
    Calls Try.prog 59 #[.agg #[.int .i64 cr, .int .i64 sz, .int .i64 ma, .int .i64 tu, .slice a n c]] w fun e w' => e = .returned (.tuple #[]) ∧ Fz (Qbl (.slice a n c) qs) w w' := by
  have hlq := h.o.len
  have hmx := h.o.max
  unfold maxLen at hmx
  have b0 := BxS.new w 38 #[.int .i64 cr, .int .i64 sz, .int .i64 ma, .int .i64 tu, .slice a n c]
  have g0 := World.grownBy_alloc w (.cells #[.int .i64 cr, .int .i64 sz, .int .i64 ma, .int .i64 tu, .slice a n c] 38) none
  generalize hw0 : w.alloc (.cells #[.int .i64 cr, .int .i64 sz, .int .i64 ma, .int .i64 tu, .slice a n c] 38) = w0 at b0 g0
  have h0 := h.o.keep g0
  go_enter Try.func59, Try.ntmps59
  go_wp2
  go_loopw [2] (fun iv wr => ∃ (k : Nat) (ps : List Qw), iv = .int .i64 k ∧ k ≤ n ∧ wr.ownsRow 0 83 3 (.slice a n c) n (flQ ps) ∧ ps.length = n ∧ (∀ k', k ≤ k' → ps[k']? = qs[k']?) ∧ (∀ k' q, k ≤ k' → qs[k']? = some q → OwR wr lo q.a q.n q.c q.rs) ∧ Fz (Qbl (.slice a n c) qs) w wr ∧ BxS wr w.heap.size 38 #[.int .i64 cr, .int .i64 sz, .int .i64 ma, .int .i64 tu, .slice a n c]) (fun iv _ => n - (intOf iv).toNat)
  case atStart => exact ⟨0, qs, by go_num, Nat.zero_le _, h0.own, hlq, (fun _ _ => rfl), (fun k' q _ hq => h0.each q (List.mem_of_getElem? hq)), (Fz.refl _ _).step g0 (fun x e _ => by cases e), b0⟩
  case round =>
    obtain ⟨k, ps, rfl, hk, hrow, hpl, hps, hOr, hFz, br⟩ := hrel
    obtain ⟨x0, x1, x2, x3, x4⟩ := BxS.cell5 br
    have HPS : Hid _ := hps
    have HOR : Hid _ := hOr
    clear hps hOr
    by_cases hlk : k < n
    · have l1 : (k : Int) < (n : Int) := by omega
      obtain ⟨gr, rfl⟩ := h.o.someQ (by omega)
      obtain ⟨q, hq⟩ : ∃ q, qs[k]? = some q := ⟨_, List.getElem?_eq_getElem (by omega)⟩
      have hmem := List.mem_of_getElem? hq
      have hqO := HOR.out k q (Nat.le_refl _) hq
      have hqd : q.d ∈ Qs := by rw [← h.d]; exact List.mem_map_of_mem hmem
      have hfit := hF _ hqd
      have hnn := hN _ hqd
      have hql := (h.o.each q hmem).len
      have hqP : q.d.P.length = q.n := by show (q.rs.map Rw.D).length = _; rw [List.length_map]; exact hql
      have hrn : ∀ r, r ∈ q.rs → r.n ≤ 140737488351240 := fun r hr => by
        have h1 := hfit r.D (List.mem_map_of_mem hr)
        have h2 := ((h.o.each q hmem).each r hr).len
        omega
      refine wp_seq_k fun K3 hK3 => ?_
      have HK3 : Hid _ := hK3
      clear hK3
      go_wp2
      refine HK3.out _ _ ?_
      clear HK3
      refine ov_t4 _ wr cr sz ma tu w.heap.size gr lo k n c ps q br hrow hpl (by rw [HPS.out k (Nat.le_refl _)]; exact hq) hqO hrn (by omega) (by omega) ?_
      intro z3 z9 z10 z11 z12 z13 z14 z15 z16 z17 z18 z19 z20 z21 z22 z23 z24 z25 z26 z27 z28 z29 z30 z31 z32 z33 z34 z35 z36 z37 z38 z39 z40 z41 z42 z43 z44 z45 w' ho' hF'
      simp only [Exit.then]
      refine ⟨?_, ?_⟩
      · repeat apply Exists.intro
        refine ⟨?_, rfl⟩
        have hrq : ∀ k' r, k + 1 ≤ k' → qs[k']? = some r → OwR w' lo r.a r.n r.c r.rs := fun k' r hk' hr => by
          have hr1 := HOR.out k' r (by omega) hr
          refine hr1.fz hF' (fun x hx e => ?_)
          rcases e with e | e
          · exact (OwQ.sep h.o (show k' ≠ k by omega) hr hq) x hx e
          · exact h.o.row_ne (h.o.each r (List.mem_of_getElem? hr)) hx e
        refine ⟨k + 1, _, by go_num, by omega, ho', by rw [List.length_set]; exact hpl, (fun k' hk' => by rw [List.getElem?_set_ne (by omega)]; exact HPS.out k' (by omega)), hrq, hFz.trans hF' (fun x _ e => ?_), br.fz hF' (fun e => ?_)⟩
        · rcases e with e | e
          · exact .inr ⟨q, hmem, e⟩
          · exact .inl (by rw [e]; rfl)
        · rcases e with e | e
          · exact ofr_box hqO br (by decide) (by decide) e rfl
          · have := (h.o.hi (x := gr) (.inl rfl)).1
            omega
      · simp [intOf]; omega
    · obtain rfl : k = n := by omega
      have l1 : ¬ (k : Int) < (k : Int) := by omega
      go_wp2
      go_end0
      exact ⟨rfl, hFz⟩
end Go.Proofs.Ytlmddjkplnbadaa
