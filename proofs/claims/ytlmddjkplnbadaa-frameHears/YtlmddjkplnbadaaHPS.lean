import Derived.Test.YtlmddjkplnbadaaHJO
import Derived.Test.YtlmddjkplnbadaaPSam
import Derived.Test.YtlmddjkplnbadaaZSub
import Derived.Test.YtlmddjkplnbadaaPOp
import Derived.Test.YtlmddjkplnbadaaZOp
namespace Go.Proofs.Ytlmddjkplnbadaa
open Go.RowKit
set_option maxRecDepth 100000
set_option linter.unusedVariables false
set_option linter.unusedSimpArgs false

theorem OwT.seven {w : World} {lo g n c : Nat} {ch : Int} {ps : List Pk} (h : OwT 66 7 w lo (some ⟨g, 0, none⟩) n c (ps.map (Pk.he ch))) {i : Nat} {p : Pk} (hi : ps[i]? = some p) :
    w.cell? ⟨g, i * 7, none⟩ = some (.int .i64 ch) ∧ w.cell? ⟨g, i * 7 + 1, none⟩ = some (.bool p.up) ∧ w.cell? ⟨g, i * 7 + 2, none⟩ = some (.bool p.se) ∧ w.cell? ⟨g, i * 7 + 3, none⟩ = some (.int .i64 p.ap) ∧ w.cell? ⟨g, i * 7 + 4, none⟩ = some (.int .i64 p.pt) ∧ w.cell? ⟨g, i * 7 + 5, none⟩ = some (.int .i64 p.ct) ∧ w.cell? ⟨g, i * 7 + 6, none⟩ = some (.slice p.a p.n p.c) := by
  have hi' : (ps.map (Pk.he ch))[i]? = some (p.he ch) := by rw [List.getElem?_map, hi]; rfl
  exact ⟨h.cell hi' 0 (by decide), h.cell hi' 1 (by decide), h.cell hi' 2 (by decide), h.cell hi' 3 (by decide), h.cell hi' 4 (by decide), h.cell hi' 5 (by decide), h.cell hi' 6 (by decide)⟩

theorem ld_six {w : World} {o : Oper} {a : Act} {p : Operand} {g off : Nat} {v0 v1 v2 v3 v4 v5 : Value} (hop : o.op = Op.load 64 p) (hp : a.eval p = .pointer (some ⟨g, off, none⟩)) (h0 : w.cell? ⟨g, off, none⟩ = some v0) (h1 : w.cell? ⟨g, off + 1, none⟩ = some v1) (h2 : w.cell? ⟨g, off + 2, none⟩ = some v2) (h3 : w.cell? ⟨g, off + 3, none⟩ = some v3) (h4 : w.cell? ⟨g, off + 4, none⟩ = some v4) (h5 : w.cell? ⟨g, off + 5, none⟩ = some v5) : (execOp a.eval o).run Try.prog w = .ok (.value (.agg #[v0, v1, v2, v3, v4, v5])) w := by
  have i6 := Try.info_pk
  have u6 := Try.underlying64
  simp [execOp, hop, hp]
  go_simp
set_option maxHeartbeats 16000000 in
theorem sameHeard_any (ch : Int) (a b : Option Addr) (n c m d la lb : Nat) (ps qs : List Pk) (w : World) (h : OwT 66 7 w la a n c (ps.map (Pk.he ch))) (k : OwT 66 7 w lb b m d (qs.map (Pk.he ch))) (he : ps.map Pk.d = qs.map Pk.d) :
    Calls Try.prog 38 #[.slice a n c, .slice b m d] w fun e w' => e = .returned (.bool true) ∧ w.grownBy w' none := by
  have hl1 : ps.length = n := by have := h.len; rw [List.length_map] at this; exact this
  have hl2 : qs.length = m := by have := k.len; rw [List.length_map] at this; exact this
  have hnm : n = m := by have := congrArg List.length he; rw [List.length_map, List.length_map] at this; omega
  subst hnm
  have hmx := h.max
  have hmy := k.max
  unfold maxLen at hmx hmy
  go_enter Try.func38, Try.ntmps38
  refine wp_seq_k fun K0 hK0 => ?_
  have HK0 : Hid _ := hK0
  clear hK0
  go_wp2
  refine HK0.out _ _ ?_
  clear HK0
  refine wp_seq_k fun K1 hK1 => ?_
  have HK1 : Hid _ := hK1
  clear hK1
  go_wp2
  refine HK1.out _ _ ?_
  clear HK1
  refine wp_seq_k fun K2 hK2 => ?_
  have HK2 : Hid _ := hK2
  clear hK2
  go_wp2
  go_loopw [5] (fun iv wr => ∃ j : Nat, j ≤ n ∧ iv = .int .i64 j ∧ w.grownBy wr none) (fun iv _ => n - (intOf iv).toNat)
  case atStart => exact ⟨0, by omega, rfl, World.grownBy.refl _ _⟩
  case round =>
    obtain ⟨j, hj, rfl, hgr⟩ := hrel
    by_cases hlt : j < n
    · obtain ⟨ga, rfl⟩ := h.someT (by omega)
      obtain ⟨gb, rfl⟩ := k.someT (by omega)
      have hp : ps[j]? = some (ps.getD j pk0) := by rw [List.getD_eq_getElem?_getD, List.getElem?_eq_getElem (by omega)]; rfl
      have hq : qs[j]? = some (qs.getD j pk0) := by rw [List.getD_eq_getElem?_getD, List.getElem?_eq_getElem (by omega)]; rfl
      have hd : (ps.getD j pk0).d = (qs.getD j pk0).d := by
        have e1 : (ps.map Pk.d)[j]? = some (ps.getD j pk0).d := by rw [List.getElem?_map, hp]; rfl
        have e2 : (qs.map Pk.d)[j]? = some (qs.getD j pk0).d := by rw [List.getElem?_map, hq]; rfl
        rw [he, e2] at e1
        exact (Option.some.inj e1).symm
      generalize ps.getD j pk0 = p at *
      generalize qs.getD j pk0 = q at *
      have l1 : (j : Int) < (n : Int) := by omega
      have hpd : p.d = q.d := hd
      have hA : Rd wr p.a p.n p.c p.D := ((h.keep hgr).each _ (List.mem_map_of_mem (List.mem_of_getElem? hp))).rd
      have hB : Rd wr q.a q.n q.c q.D := ((k.keep hgr).each _ (List.mem_map_of_mem (List.mem_of_getElem? hq))).rd
      unfold Pk.d at hpd
      simp only [Pd.mk.injEq] at hpd
      obtain ⟨p1, p2, p3, p4, p5, p6⟩ := hpd
      refine wp_seq_k fun K5 hK5 => ?_
      have HK5 : Hid _ := hK5
      clear hK5
      go_wp2
      refine HK5.out _ _ ?_
      clear HK5
      refine wp_seq_k fun K6 hK6 => ?_
      have HK6 : Hid _ := hK6
      clear hK6
      refine wp_block ?_
      refine wp_seq_k fun K7 hK7 => ?_
      have HK7 : Hid _ := hK7
      clear hK7
      have SS : OwT 66 7 wr.drew la (some ⟨ga, 0, none⟩) n c (ps.map (Pk.he ch)) ∧ OwT 66 7 wr.drew lb (some ⟨gb, 0, none⟩) n d (qs.map (Pk.he ch)) := ⟨(h.keep hgr).keep (grown_drew wr none), (k.keep hgr).keep (grown_drew wr none)⟩
      have hAd := hA.keep (grown_drew wr none)
      have hBd := hB.keep (grown_drew wr none)
      have Gd := grown_trans hgr (grown_drew wr none)
      refine wp_regionL (fun wz => OwT 66 7 wz la (some ⟨ga, 0, none⟩) n c (ps.map (Pk.he ch)) ∧ OwT 66 7 wz lb (some ⟨gb, 0, none⟩) n d (qs.map (Pk.he ch))) [] #[false, false, false, false, false, false, false, false, false, false, false, false, false, false, false, false, false, false, false, false, false, false, false, false, false] rfl (by kernel_rfl) ?_
      refine wpAnyZ_take [] 0 (.slice (some ⟨ga, 0, none⟩) n c) rfl (by kernel_rfl) (fun _ _ _ h => h) SS rfl (by intro wz hz; go_simp) ?_
      try simp only [List.getElem_toArray, List.getElem_cons_succ, List.getElem_cons_zero, Act.put, List.setIfInBounds_toArray, List.set_cons_zero, List.set_cons_succ]
      refine wpAnyZ_take [] 1 (.int .i64 (j : Int)) rfl (by kernel_rfl) (fun _ _ _ h => h) SS rfl (by intro wz hz; go_simp) ?_
      try simp only [List.getElem_toArray, List.getElem_cons_succ, List.getElem_cons_zero, Act.put, List.setIfInBounds_toArray, List.set_cons_zero, List.set_cons_succ]
      refine wpAnyZ_take [] 2 (.pointer (some ⟨ga, j * 7, none⟩)) rfl (by kernel_rfl) (fun _ _ _ h => h) SS rfl (by intro wz hz; go_simp) ?_
      try simp only [List.getElem_toArray, List.getElem_cons_succ, List.getElem_cons_zero, Act.put, List.setIfInBounds_toArray, List.set_cons_zero, List.set_cons_succ]
      refine wpAnyZ_take [] 3 (.pointer (some ⟨ga, j * 7, none⟩)) rfl (by kernel_rfl) (fun _ _ _ h => h) SS rfl (by intro wz hz; go_simp) ?_
      try simp only [List.getElem_toArray, List.getElem_cons_succ, List.getElem_cons_zero, Act.put, List.setIfInBounds_toArray, List.set_cons_zero, List.set_cons_succ]
      refine wpAnyZ_take [] 4 (.int .i64 ch) rfl (by kernel_rfl) (fun _ _ _ h => h) SS rfl (by rintro wz ⟨ha, hb'⟩; obtain ⟨a0, a1, a2, a3, a4, a5, a6⟩ := ha.seven hp; obtain ⟨c0, c1, c2, c3, c4, c5, c6⟩ := hb'.seven hq; go_simp) ?_
      try simp only [List.getElem_toArray, List.getElem_cons_succ, List.getElem_cons_zero, Act.put, List.setIfInBounds_toArray, List.set_cons_zero, List.set_cons_succ]
      refine wpAnyZ_take [] 5 (.slice (some ⟨gb, 0, none⟩) n d) rfl (by kernel_rfl) (fun _ _ _ h => h) SS rfl (by intro wz hz; go_simp) ?_
      try simp only [List.getElem_toArray, List.getElem_cons_succ, List.getElem_cons_zero, Act.put, List.setIfInBounds_toArray, List.set_cons_zero, List.set_cons_succ]
      refine wpAnyZ_take [] 6 (.int .i64 (j : Int)) rfl (by kernel_rfl) (fun _ _ _ h => h) SS rfl (by intro wz hz; go_simp) ?_
      try simp only [List.getElem_toArray, List.getElem_cons_succ, List.getElem_cons_zero, Act.put, List.setIfInBounds_toArray, List.set_cons_zero, List.set_cons_succ]
      refine wpAnyZ_take [] 7 (.pointer (some ⟨gb, j * 7, none⟩)) rfl (by kernel_rfl) (fun _ _ _ h => h) SS rfl (by intro wz hz; go_simp) ?_
      try simp only [List.getElem_toArray, List.getElem_cons_succ, List.getElem_cons_zero, Act.put, List.setIfInBounds_toArray, List.set_cons_zero, List.set_cons_succ]
      refine wpAnyZ_take [] 8 (.pointer (some ⟨gb, j * 7, none⟩)) rfl (by kernel_rfl) (fun _ _ _ h => h) SS rfl (by intro wz hz; go_simp) ?_
      try simp only [List.getElem_toArray, List.getElem_cons_succ, List.getElem_cons_zero, Act.put, List.setIfInBounds_toArray, List.set_cons_zero, List.set_cons_succ]
      refine wpAnyZ_take [] 9 (.int .i64 ch) rfl (by kernel_rfl) (fun _ _ _ h => h) SS rfl (by rintro wz ⟨ha, hb'⟩; obtain ⟨a0, a1, a2, a3, a4, a5, a6⟩ := ha.seven hp; obtain ⟨c0, c1, c2, c3, c4, c5, c6⟩ := hb'.seven hq; go_simp) ?_
      try simp only [List.getElem_toArray, List.getElem_cons_succ, List.getElem_cons_zero, Act.put, List.setIfInBounds_toArray, List.set_cons_zero, List.set_cons_succ]
      refine wpAnyZ_take [] 10 (.bool false) rfl (by kernel_rfl) (fun _ _ _ h => h) SS rfl (by intro wz hz; go_simp) ?_
      try simp only [List.getElem_toArray, List.getElem_cons_succ, List.getElem_cons_zero, Act.put, List.setIfInBounds_toArray, List.set_cons_zero, List.set_cons_succ]
      refine wpAnyZ_take [] 11 (.bool false) rfl (by kernel_rfl) (fun _ _ _ h => h) SS rfl (by intro wz hz; go_simp) ?_
      try simp only [List.getElem_toArray, List.getElem_cons_succ, List.getElem_cons_zero, Act.put, List.setIfInBounds_toArray, List.set_cons_zero, List.set_cons_succ]
      refine wpAnyZ_take [] 12 (.slice (some ⟨ga, 0, none⟩) n c) rfl (by kernel_rfl) (fun _ _ _ h => h) SS rfl (by intro wz hz; go_simp) ?_
      try simp only [List.getElem_toArray, List.getElem_cons_succ, List.getElem_cons_zero, Act.put, List.setIfInBounds_toArray, List.set_cons_zero, List.set_cons_succ]
      refine wpAnyZ_take [] 13 (.int .i64 (j : Int)) rfl (by kernel_rfl) (fun _ _ _ h => h) SS rfl (by intro wz hz; go_simp) ?_
      try simp only [List.getElem_toArray, List.getElem_cons_succ, List.getElem_cons_zero, Act.put, List.setIfInBounds_toArray, List.set_cons_zero, List.set_cons_succ]
      refine wpAnyZ_take [] 14 (.pointer (some ⟨ga, j * 7, none⟩)) rfl (by kernel_rfl) (fun _ _ _ h => h) SS rfl (by intro wz hz; go_simp) ?_
      try simp only [List.getElem_toArray, List.getElem_cons_succ, List.getElem_cons_zero, Act.put, List.setIfInBounds_toArray, List.set_cons_zero, List.set_cons_succ]
      refine wpAnyZ_take [] 15 (.pointer (some ⟨ga, j * 7 + 1, none⟩)) rfl (by kernel_rfl) (fun _ _ _ h => h) SS rfl (by intro wz hz; go_simp) ?_
      try simp only [List.getElem_toArray, List.getElem_cons_succ, List.getElem_cons_zero, Act.put, List.setIfInBounds_toArray, List.set_cons_zero, List.set_cons_succ]
      refine wpAnyZ_take [] 16 (.agg #[.bool p.up, .bool p.se, .int .i64 p.ap, .int .i64 p.pt, .int .i64 p.ct, .slice p.a p.n p.c]) rfl (by kernel_rfl) (fun _ _ _ h => h) SS rfl (by rintro wz ⟨ha, hb'⟩; obtain ⟨a0, a1, a2, a3, a4, a5, a6⟩ := ha.seven hp; obtain ⟨c0, c1, c2, c3, c4, c5, c6⟩ := hb'.seven hq; exact ld_six rfl rfl a1 a2 a3 a4 a5 a6) ?_
      try simp only [List.getElem_toArray, List.getElem_cons_succ, List.getElem_cons_zero, Act.put, List.setIfInBounds_toArray, List.set_cons_zero, List.set_cons_succ]
      refine wpAnyZ_take [] 17 (.slice (some ⟨gb, 0, none⟩) n d) rfl (by kernel_rfl) (fun _ _ _ h => h) SS rfl (by intro wz hz; go_simp) ?_
      try simp only [List.getElem_toArray, List.getElem_cons_succ, List.getElem_cons_zero, Act.put, List.setIfInBounds_toArray, List.set_cons_zero, List.set_cons_succ]
      refine wpAnyZ_take [] 18 (.int .i64 (j : Int)) rfl (by kernel_rfl) (fun _ _ _ h => h) SS rfl (by intro wz hz; go_simp) ?_
      try simp only [List.getElem_toArray, List.getElem_cons_succ, List.getElem_cons_zero, Act.put, List.setIfInBounds_toArray, List.set_cons_zero, List.set_cons_succ]
      refine wpAnyZ_take [] 19 (.pointer (some ⟨gb, j * 7, none⟩)) rfl (by kernel_rfl) (fun _ _ _ h => h) SS rfl (by intro wz hz; go_simp) ?_
      try simp only [List.getElem_toArray, List.getElem_cons_succ, List.getElem_cons_zero, Act.put, List.setIfInBounds_toArray, List.set_cons_zero, List.set_cons_succ]
      refine wpAnyZ_take [] 20 (.pointer (some ⟨gb, j * 7 + 1, none⟩)) rfl (by kernel_rfl) (fun _ _ _ h => h) SS rfl (by intro wz hz; go_simp) ?_
      try simp only [List.getElem_toArray, List.getElem_cons_succ, List.getElem_cons_zero, Act.put, List.setIfInBounds_toArray, List.set_cons_zero, List.set_cons_succ]
      refine wpAnyZ_take [] 21 (.agg #[.bool q.up, .bool q.se, .int .i64 q.ap, .int .i64 q.pt, .int .i64 q.ct, .slice q.a q.n q.c]) rfl (by kernel_rfl) (fun _ _ _ h => h) SS rfl (by rintro wz ⟨ha, hb'⟩; obtain ⟨a0, a1, a2, a3, a4, a5, a6⟩ := ha.seven hp; obtain ⟨c0, c1, c2, c3, c4, c5, c6⟩ := hb'.seven hq; exact ld_six rfl rfl c1 c2 c3 c4 c5 c6) ?_
      try simp only [List.getElem_toArray, List.getElem_cons_succ, List.getElem_cons_zero, Act.put, List.setIfInBounds_toArray, List.set_cons_zero, List.set_cons_succ]
      generalize wr.drew = w2 at *
      refine wpAnyZ_oneB 22 rfl (by kernel_rfl) (fun KK hKK => ?_)
      go_simp
      go_at_call 71
      rw [p6] at hAd
      refine (samePacket_any q.up q.se q.ap q.pt q.ct p.a q.a p.n q.n p.c q.c q.D w2 hAd hBd).mono ?_
      rintro e w3 ⟨rfl, g3⟩
      dsimp only
      have S3 := And.intro (SS.1.keep g3) (SS.2.keep g3)
      refine hKK _ _ (fun _ => S3) ?_
      try simp only [List.getElem_toArray, List.getElem_cons_succ, List.getElem_cons_zero, Act.put, List.setIfInBounds_toArray, List.set_cons_zero, List.set_cons_succ]
      refine wpAnyZ_take [] 23 (.bool false) rfl (by kernel_rfl) (fun _ _ _ h => h) S3 rfl (by intro wz hz; go_simp) ?_
      try simp only [List.getElem_toArray, List.getElem_cons_succ, List.getElem_cons_zero, Act.put, List.setIfInBounds_toArray, List.set_cons_zero, List.set_cons_succ]
      refine wpAnyZ_take [] 24 (.bool false) rfl (by kernel_rfl) (fun _ _ _ h => h) S3 rfl (by intro wz hz; go_simp) ?_
      try simp only [List.getElem_toArray, List.getElem_cons_succ, List.getElem_cons_zero, Act.put, List.setIfInBounds_toArray, List.set_cons_zero, List.set_cons_succ]
      refine wpAnyZ_doneB (by kernel_rfl) ?_ _
      refine HK7.out _ _ ?_
      clear HK7
      go_wp2
      try simp only [Exit.inBlock, Exit.then]
      refine HK6.out _ _ ?_
      clear HK6
      go_wp2
      go_roundw
      case rel => exact ⟨j + 1, by omega, by go_num, grown_trans Gd g3⟩
      case measure => simp [intOf]; omega
    · obtain rfl : j = n := by omega
      go_wp2
      refine HK2.out _ _ ?_
      clear HK2
      go_wp2
      go_ret
      exact ⟨rfl, hgr⟩

/-- things that their owner writes over: those from j on stand as they stood, the bytes of those from e on, too -/
structure OvT (t : TypeId) (k : Nat) (wb wr : World) (lo : Nat) (a : Option Addr) (n c : Nat) (ts : List Th) (j e : Nat) (ts' : List Th) : Prop where
  own : wr.ownsRow 0 t k (.slice a n c) n (flT ts')
  len : ts'.length = n
  sz : SzT k ts'
  same : ∀ i, j ≤ i → ts'[i]? = ts[i]?
  each : ∀ i x, e ≤ i → ts[i]? = some x → Ans wr lo x.r.a x.r.n x.r.c x.r.D
  fz : Fz (Tbl (.slice a n c) ts) wb wr
theorem OwT.ov {t : TypeId} {k : Nat} {w : World} {lo : Nat} {a : Option Addr} {n c : Nat} {ts : List Th} (h : OwT t k w lo a n c ts) : OvT t k w w lo a n c ts 0 0 ts :=
  ⟨h.own, h.len, h.sz, fun i _ => rfl, fun i x _ hx => h.each x (List.mem_of_getElem? hx), Fz.refl _ _⟩
section
variable {t : TypeId} {k : Nat} {wb wr w2 w3 : World} {lo : Nat} {g n c : Nat} {ts ts' : List Th} {j : Nat}
theorem OvT.cell (h : OvT t k wb wr lo (some ⟨g, 0, none⟩) n c ts j j ts') {x : Th} (hx : ts[j]? = some x) (i : Nat) (hi : i < k) : wr.cell? ⟨g, j * k + i, none⟩ = x.cs[i]? := by
  have hx' : ts'[j]? = some x := by rw [h.same j (Nat.le_refl _)]; exact hx
  have hl := h.sz x (List.mem_of_getElem? hx')
  have hf := flT_at h.sz j x hx' i hi
  have hu : x.cs[i]? = some (x.cs[i]'(by omega)) := List.getElem?_eq_getElem (by omega)
  rw [hu] at hf ⊢
  have := h.own.cells (g := g) rfl (j * k + i) _ hf
  rw [addr_add', Nat.zero_add] at this
  exact this
theorem OvT.spoiled (h : OvT t k wb wr lo (some ⟨g, 0, none⟩) n c ts j j ts') (h0 : OwT t k wb lo (some ⟨g, 0, none⟩) n c ts) (ht : 5 ≠ t) {x : Th} (hx : ts[j]? = some x) (u : wr.grownBy w2 x.r.v.ownBlock) : OvT t k wb w2 lo (some ⟨g, 0, none⟩) n c ts j (j + 1) ts' := by
  have hA := h.each j x (Nat.le_refl _) hx
  have hjl := (List.getElem?_eq_some_iff.1 hx).1
  have hjx : ts[j] = x := (List.getElem?_eq_some_iff.1 hx).2
  refine ⟨h.own.kept u (.inr (fun e => ?_)), h.len, h.sz, h.same, fun i y hi hy => (h.each i y (by omega) hy).kept u ?_, h.fz.step u (fun b e _ => .inr ⟨x, List.mem_of_getElem? hx, e⟩)⟩
  · rcases h.own.2 with ⟨h1, _⟩ | ⟨y, cap', cur, h1, _, hh, _⟩
    · simp at h1
    · simp only [Value.slice.injEq, Option.some.injEq, Addr.mk.injEq] at h1
      obtain ⟨⟨rfl, _⟩, _, rfl⟩ := h1
      exact hA.apart hh ht e.symm
  · cases e : (Value.slice y.r.a y.r.n y.r.c).ownBlock with
    | none => exact .inl rfl
    | some z =>
      refine .inr (fun e2 => ?_)
      have hil := (List.getElem?_eq_some_iff.1 hy).1
      have hiy : ts[i] = y := (List.getElem?_eq_some_iff.1 hy).2
      have := List.pairwise_iff_getElem.1 h0.apart j i hjl hil (by omega) z
      rw [hjx, hiy] at this
      exact this e2.symm e
theorem OvT.stored (h : OvT t k wb w2 lo (some ⟨g, 0, none⟩) n c ts j (j + 1) ts') (ht : 5 ≠ t) {x' : Th} (ho : w3.ownsRow 0 t k (.slice (some ⟨g, 0, none⟩) n c) n (flT (ts'.set j x'))) (u : w2.grownBy w3 (some g)) (hs : x'.cs.length = k) : OvT t k wb w3 lo (some ⟨g, 0, none⟩) n c ts (j + 1) (j + 1) (ts'.set j x') := by
  refine ⟨ho, by rw [List.length_set]; exact h.len, fun y hy => ?_, fun i hi => by rw [List.getElem?_set_ne (by omega)]; exact h.same i (by omega), fun i y hi hy => (h.each i y hi hy).kept u ?_, h.fz.step u (fun b e _ => .inl (by rw [← e]; rfl))⟩
  · rcases List.mem_or_eq_of_mem_set hy with hy | rfl
    · exact h.sz y hy
    · exact hs
  · cases e : (Value.slice y.r.a y.r.n y.r.c).ownBlock with
    | none => exact .inl rfl
    | some z =>
      refine .inr (fun e2 => ?_)
      rw [e2] at e
      rcases h.own.2 with ⟨h1, _⟩ | ⟨y', cap', cur, h1, _, hh, _⟩
      · simp at h1
      · simp only [Value.slice.injEq, Option.some.injEq, Addr.mk.injEq] at h1
        obtain ⟨⟨rfl, _⟩, _, rfl⟩ := h1
        exact (h.each i y hi hy).apart hh ht e
end
theorem BxS.fzT {w w' : World} {p : Nat → Prop} {g : Nat} {t : TypeId} {cs : Array Value} (b : BxS w g t cs) (F : Fz p w w') (h : ¬ p g) : BxS w' g t cs := (F.block g b.lt h).trans b

set_option maxHeartbeats 16000000 in
theorem lh_t22 {u0 u1 u2 u3 u4 u7 u8 u9 u14 u15 u16 u19 u20 u21 u22 u23 u24 u25 u26 u27 u28 u29 u30 u31 u32 u33 u34 u35 u36 u37 u38 u39 u40 u41 u42 u43 u44 u45 u46 u47 u48 u49 u50 u51 u52 u53 u54 u55 u56 u57 u58 u59 u60 u61 u62 u63 u64 u65 u66 u67 u68 u69 u70 u71 u72 u73 u74 u75 u76 u77 u78 u79 u80 u81 u82 u83 u84 u85 u86 u87 u88 u89 u90 u91 u92 u93 u94 u95 u96 u97 u98 u99 u100 u101 u102 u103 u104 u105 u106 u107 u108 u109 u110 u111 u112 u113 u114 u115 u116 u117 u118 u119 u120 u121 u122 u123 u124 u125 u126 u127 u128 u129 u130 u131 u132 u133 u134 u135 u136 u137 u138 u139 u140 u141 u142 u143 u144 u145 u146 u147 u148 u149 u150 u151 u152 u153 u154 u155 u156 u157 u158 u159 u160 u161 u162 u163 u164 u165 u166 u167 u168 u169 u170 u171 u172 u173 u174 u175 u176 u177 u178 u179 u180 u181 u182 u183 u184 : Value} (w w5 w1 : World) (g5 g10 g12 g17 gc nb : Nat) (cr sz ma r0 r1 r2 ch : Int) (V Es : List Ed) (B Dc : List Nat) (ya : Option Addr) (yn yc ly : Nat) (ey : List Er) (wa : Option Addr) (wn wc lw : Nat) (ew : List Er) (xa : Option Addr) (xn xc lx : Nat) (ex : List Er) (ta : Option Addr) (tn tc lt : Nat) (et : List Er) (qa : Option Addr) (qn qc lq : Nat) (qs : List Pk) (ha : Option Addr) (hn hc lh : Nat) (hs : List Pk) (pa : Option Addr) (pn pc lp : Nat) (ps : List Pk) (b5 : BxS w5 g5 43 #[.int .i64 r0, .int .i64 r1, .int .i64 r2, .slice wa wn wc]) (b17 : BxS w5 g17 43 #[.int .i64 r0, .int .i64 r1, .int .i64 r2, .slice ya yn yc]) (b10 : BxS w5 g10 43 #[.int .i64 cr, .int .i64 sz, .int .i64 ma, .slice ta tn tc]) (b12 : BxS w5 g12 43 #[.int .i64 r0, .int .i64 r1, .int .i64 r2, .slice xa xn xc]) (hY : OwL w5 ly ya yn yc ey V) (hW : OwL w5 lw wa wn wc ew V) (hX : OwL w5 lx xa xn xc ex V) (hT : OwL w5 lt ta tn tc et Es) (hQ : OwT 66 7 w5 lq qa qn qc (qs.map (Pk.he ch))) (hH : OwT 66 7 w5 lh ha hn hc (hs.map (Pk.he ch))) (hP : OwT 66 7 w5 lp pa pn pc (ps.map (Pk.he ch))) (hqd : qs.map Pk.d = hs.map Pk.d) (hRm : Roomy w5 gc nb B Dc) (hnb : nb ≤ 140737488351232) (hBb : IsB B) (hBl : B.length = nb) (hVl : ∀ e, e ∈ V → e.D.length ≤ 140737488351232) (hEl : ∀ e, e ∈ Es → e.D.length ≤ 140737488351232) (hpl : ∀ p, p ∈ ps → p.n ≤ 140737488351232) (G5 : w.grownBy w5 none) (hlo : w.heap.size ≤ lx ∧ w.heap.size ≤ lt ∧ w.heap.size ≤ lp ∧ w.heap.size ≤ gc) (dis : ∀ z, (Tbl (.slice pa pn pc) (ps.map (Pk.he ch)) z ∨ Tbl (.slice xa xn xc) (ex.map Er.th) z ∨ Tbl (.slice ta tn tc) (et.map Er.th) z) → ¬ Tbl (.slice ya yn yc) (ey.map Er.th) z ∧ ¬ Tbl (.slice wa wn wc) (ew.map Er.th) z ∧ ¬ Tbl (.slice qa qn qc) (qs.map (Pk.he ch)) z ∧ ¬ Tbl (.slice ha hn hc) (hs.map (Pk.he ch)) z ∧ z ≠ gc) (dis2 : ∀ z, Tbl (.slice pa pn pc) (ps.map (Pk.he ch)) z → ¬ Tbl (.slice xa xn xc) (ex.map Er.th) z ∧ ¬ Tbl (.slice ta tn tc) (et.map Er.th) z) (dis3 : ∀ z, Tbl (.slice xa xn xc) (ex.map Er.th) z → ¬ Tbl (.slice ta tn tc) (et.map Er.th) z) (dgc : ¬ Tbl (.slice ya yn yc) (ey.map Er.th) gc ∧ ¬ Tbl (.slice wa wn wc) (ew.map Er.th) gc ∧ ¬ Tbl (.slice qa qn qc) (qs.map (Pk.he ch)) gc ∧ ¬ Tbl (.slice ha hn hc) (hs.map (Pk.he ch)) gc) (F : Fz (fun z => Tbl (.slice pa pn pc) (ps.map (Pk.he ch)) z ∨ Tbl (.slice xa xn xc) (ex.map Er.th) z ∨ Tbl (.slice ta tn tc) (et.map Er.th) z) w5 w1) :
    Code.wp Try.prog (tailR 22 (Try.f9.body.getD .skip)) (bodyPost Try.prog Try.f9 (fun e w' => e = .returned (.bool true) ∧ w.grownBy w' none)) (Act.mk (List.toArray (u0 :: u1 :: u2 :: u3 :: u4 :: (.pointer (some ⟨g5, 0, none⟩)) :: (.slice ha hn hc) :: u7 :: u8 :: u9 :: (.pointer (some ⟨g10, 0, none⟩)) :: (.slice (some ⟨gc, 0, none⟩) nb (nb + 5)) :: (.pointer (some ⟨g12, 0, none⟩)) :: (.slice pa pn pc) :: u14 :: u15 :: u16 :: (.pointer (some ⟨g17, 0, none⟩)) :: (.slice qa qn qc) :: u19 :: u20 :: u21 :: u22 :: u23 :: u24 :: u25 :: u26 :: u27 :: u28 :: u29 :: u30 :: u31 :: u32 :: u33 :: u34 :: u35 :: u36 :: u37 :: u38 :: u39 :: u40 :: u41 :: u42 :: u43 :: u44 :: u45 :: u46 :: u47 :: u48 :: u49 :: u50 :: u51 :: u52 :: u53 :: u54 :: u55 :: u56 :: u57 :: u58 :: u59 :: u60 :: u61 :: u62 :: u63 :: u64 :: u65 :: u66 :: u67 :: u68 :: u69 :: u70 :: u71 :: u72 :: u73 :: u74 :: u75 :: u76 :: u77 :: u78 :: u79 :: u80 :: u81 :: u82 :: u83 :: u84 :: u85 :: u86 :: u87 :: u88 :: u89 :: u90 :: u91 :: u92 :: u93 :: u94 :: u95 :: u96 :: u97 :: u98 :: u99 :: u100 :: u101 :: u102 :: u103 :: u104 :: u105 :: u106 :: u107 :: u108 :: u109 :: u110 :: u111 :: u112 :: u113 :: u114 :: u115 :: u116 :: u117 :: u118 :: u119 :: u120 :: u121 :: u122 :: u123 :: u124 :: u125 :: u126 :: u127 :: u128 :: u129 :: u130 :: u131 :: u132 :: u133 :: u134 :: u135 :: u136 :: u137 :: u138 :: u139 :: u140 :: u141 :: u142 :: u143 :: u144 :: u145 :: u146 :: u147 :: u148 :: u149 :: u150 :: u151 :: u152 :: u153 :: u154 :: u155 :: u156 :: u157 :: u158 :: u159 :: u160 :: u161 :: u162 :: u163 :: u164 :: u165 :: u166 :: u167 :: u168 :: u169 :: u170 :: u171 :: u172 :: u173 :: u174 :: u175 :: u176 :: u177 :: u178 :: u179 :: u180 :: u181 :: u182 :: u183 :: u184 :: [])) []) w1 := by
  conv => enter [2]; whnf
  have i4 := Try.info_li
  have nbx : ∀ {g : Nat} {cs : Array Value}, BxS w5 g 43 cs → ¬ (Tbl (.slice pa pn pc) (ps.map (Pk.he ch)) g ∨ Tbl (.slice xa xn xc) (ex.map Er.th) g ∨ Tbl (.slice ta tn tc) (et.map Er.th) g) := fun b h => by
    rcases h with h | h | h
    · exact hP.box b (by decide) (by decide) h
    · exact hX.o.box b (by decide) (by decide) h
    · exact hT.o.box b (by decide) (by decide) h
  have c5 := b5.fzT F (nbx b5)
  have c17 := b17.fzT F (nbx b17)
  have kY := hY.fz F (fun z hz hp => (dis z hp).1 hz)
  have kW := hW.fz F (fun z hz hp => (dis z hp).2.1 hz)
  have kQ := hQ.fz F (fun z hz hp => (dis z hp).2.2.1 hz)
  have kH := hH.fz F (fun z hz hp => (dis z hp).2.2.2.1 hz)
  have kR : Roomy w1 gc nb B Dc := ⟨(F.block gc hRm.blk.lt (fun hp => (dis gc hp).2.2.2.2 rfl)).trans hRm.blk, hRm.len, hRm.byte, hRm.own, hRm.mark⟩
  have G1 : w.grownBy w1 none := Fz.grown G5 F (fun i h => by
    rcases h with h | h | h
    · have := (hP.hi h).2; omega
    · have := (hX.o.hi h).2; omega
    · have := (hT.o.hi h).2; omega)
  refine wp_seq_k fun K1 hK1 => ?_
  have HK1 : Hid _ := hK1
  clear hK1
  have s0 : True := trivial
  have kA := kR.ans (lo := 0) hBb hBl hnb (Nat.zero_le _)
  go_wp2_with (go_at_call 31; have _t := s0; clear s0; refine (spoil_any kA (by omega)).mono ?_; rintro e w2 ⟨rfl, u2⟩)
  have u2 : w1.grownBy w2 (some gc) := u2
  have nb2 : ∀ {g : Nat} {cs : Array Value}, BxS w1 g 43 cs → some g ≠ some gc := fun b e => by
    have e := Option.some.inj e
    subst e
    exact kA.apart b (by decide) rfl
  have d5 := c5.keep u2 (nb2 c5)
  have d17 := c17.keep u2 (nb2 c17)
  have F2 := Fz.of1 u2
  have lY := kY.fz F2 (fun z hz e => by rw [e] at hz; exact dgc.1 hz)
  have lW := kW.fz F2 (fun z hz e => by rw [e] at hz; exact dgc.2.1 hz)
  have lQ := kQ.fz F2 (fun z hz e => by rw [e] at hz; exact dgc.2.2.1 hz)
  have lH := kH.fz F2 (fun z hz e => by rw [e] at hz; exact dgc.2.2.2 hz)
  have G2 := grown_far G1 u2 (fun q e => by have e := Option.some.inj e; omega)
  refine HK1.out _ _ ?_
  clear HK1
  have s0 : True := trivial
  have kS := sameListener2_any r0 r1 r2 ya wa yn wn yc wc V w2 lY.rd lW.rd
  unfold liA at kS
  go_wp2_with (first
    | (have _t := s0; clear s0; refine wpList_ldX _ rfl _ (.tmp 17) rfl g17 _ rfl d17 Try.underlying43 i4 ?_; have s1 : True := trivial)
    | (have _t := s1; clear s1; refine wpList_ldX _ rfl _ (.tmp 5) rfl g5 _ rfl d5 Try.underlying43 i4 ?_; have s2 : True := trivial)
    | (go_at_call 26; have _t := s2; clear s2; refine kS.mono ?_; rintro e w3 ⟨rfl, g3⟩; have s3 : True := trivial)
    | (go_at_call 38; have _t := s3; clear s3; refine (sameHeard_any ch qa ha qn qc hn hc lq lh qs hs w3 (lQ.keep g3) (lH.keep g3) hqd).mono ?_; rintro e w4 ⟨rfl, g4⟩))
  go_ret
  exact ⟨rfl, grown_trans (grown_trans G2 g3) g4⟩

set_option maxHeartbeats 32000000 in
theorem lh_t17 {{u0 u1 u2 u3 u4 u7 u8 u9 u14 u15 u16 u19 u20 u21 u22 u23 u24 u25 u26 u27 u28 u29 u30 u31 u32 u33 u34 u35 u36 u37 u38 u39 u40 u41 u42 u43 u44 u45 u46 u47 u48 u49 u50 u51 u52 u53 u54 u55 u56 u57 u58 u59 u60 u61 u62 u63 u64 u65 u66 u67 u68 u69 u70 u71 u72 u73 u74 u75 u76 u77 u78 u79 u80 u81 u82 u83 u84 u85 u86 u87 u88 u89 u90 u91 u92 u93 u94 u95 u96 u97 u98 u99 u100 u101 u102 u103 u104 u105 u106 u107 u108 u109 u110 u111 u112 u113 u114 u115 u116 u117 u118 u119 u120 u121 u122 u123 u124 u125 u126 u127 u128 u129 u130 u131 u132 u133 u134 u135 u136 u137 u138 u139 u140 u141 u142 u143 u144 u145 u146 u147 u148 u149 u150 u151 u152 u153 u154 u155 u156 u157 u158 u159 u160 u161 u162 u163 u164 u165 u166 u167 u168 u169 u170 u171 u172 u173 u174 u175 u176 u177 u178 u179 u180 u181 u182 u183 u184 : Value}} (w w5 w1 : World) (g5 g10 g12 g17 gc nb : Nat) (cr sz ma r0 r1 r2 ch : Int) (V Es : List Ed) (B Dc : List Nat) (ya : Option Addr) (yn yc ly : Nat) (ey : List Er) (wa : Option Addr) (wn wc lw : Nat) (ew : List Er) (xa : Option Addr) (xn xc lx : Nat) (ex : List Er) (ta : Option Addr) (tn tc lt : Nat) (et : List Er) (qa : Option Addr) (qn qc lq : Nat) (qs : List Pk) (ha : Option Addr) (hn hc lh : Nat) (hs : List Pk) (pa : Option Addr) (pn pc lp : Nat) (ps : List Pk) (b5 : BxS w5 g5 43 #[.int .i64 r0, .int .i64 r1, .int .i64 r2, .slice wa wn wc]) (b17 : BxS w5 g17 43 #[.int .i64 r0, .int .i64 r1, .int .i64 r2, .slice ya yn yc]) (b10 : BxS w5 g10 43 #[.int .i64 cr, .int .i64 sz, .int .i64 ma, .slice ta tn tc]) (b12 : BxS w5 g12 43 #[.int .i64 r0, .int .i64 r1, .int .i64 r2, .slice xa xn xc]) (hY : OwL w5 ly ya yn yc ey V) (hW : OwL w5 lw wa wn wc ew V) (hX : OwL w5 lx xa xn xc ex V) (hT : OwL w5 lt ta tn tc et Es) (hQ : OwT 66 7 w5 lq qa qn qc (qs.map (Pk.he ch))) (hH : OwT 66 7 w5 lh ha hn hc (hs.map (Pk.he ch))) (hP : OwT 66 7 w5 lp pa pn pc (ps.map (Pk.he ch))) (hqd : qs.map Pk.d = hs.map Pk.d) (hRm : Roomy w5 gc nb B Dc) (hnb : nb ≤ 140737488351232) (hBb : IsB B) (hBl : B.length = nb) (hVl : ∀ e, e ∈ V → e.D.length ≤ 140737488351232) (hEl : ∀ e, e ∈ Es → e.D.length ≤ 140737488351232) (hpl : ∀ p, p ∈ ps → p.n ≤ 140737488351232) (G5 : w.grownBy w5 none) (hlo : w.heap.size ≤ lx ∧ w.heap.size ≤ lt ∧ w.heap.size ≤ lp ∧ w.heap.size ≤ gc) (dis : ∀ z, (Tbl (.slice pa pn pc) (ps.map (Pk.he ch)) z ∨ Tbl (.slice xa xn xc) (ex.map Er.th) z ∨ Tbl (.slice ta tn tc) (et.map Er.th) z) → ¬ Tbl (.slice ya yn yc) (ey.map Er.th) z ∧ ¬ Tbl (.slice wa wn wc) (ew.map Er.th) z ∧ ¬ Tbl (.slice qa qn qc) (qs.map (Pk.he ch)) z ∧ ¬ Tbl (.slice ha hn hc) (hs.map (Pk.he ch)) z ∧ z ≠ gc) (dis2 : ∀ z, Tbl (.slice pa pn pc) (ps.map (Pk.he ch)) z → ¬ Tbl (.slice xa xn xc) (ex.map Er.th) z ∧ ¬ Tbl (.slice ta tn tc) (et.map Er.th) z) (dis3 : ∀ z, Tbl (.slice xa xn xc) (ex.map Er.th) z → ¬ Tbl (.slice ta tn tc) (et.map Er.th) z) (dgc : ¬ Tbl (.slice ya yn yc) (ey.map Er.th) gc ∧ ¬ Tbl (.slice wa wn wc) (ew.map Er.th) gc ∧ ¬ Tbl (.slice qa qn qc) (qs.map (Pk.he ch)) gc ∧ ¬ Tbl (.slice ha hn hc) (hs.map (Pk.he ch)) gc) (F : Fz (fun z => Tbl (.slice pa pn pc) (ps.map (Pk.he ch)) z ∨ Tbl (.slice xa xn xc) (ex.map Er.th) z) w5 w1) :
    Code.wp Try.prog (tailR 17 (Try.f9.body.getD .skip)) (bodyPost Try.prog Try.f9 (fun e w' => e = .returned (.bool true) ∧ w.grownBy w' none)) (Act.mk (List.toArray (u0 :: u1 :: u2 :: u3 :: u4 :: (.pointer (some ⟨g5, 0, none⟩)) :: (.slice ha hn hc) :: u7 :: u8 :: u9 :: (.pointer (some ⟨g10, 0, none⟩)) :: (.slice (some ⟨gc, 0, none⟩) nb (nb + 5)) :: (.pointer (some ⟨g12, 0, none⟩)) :: (.slice pa pn pc) :: u14 :: u15 :: u16 :: (.pointer (some ⟨g17, 0, none⟩)) :: (.slice qa qn qc) :: u19 :: u20 :: u21 :: u22 :: u23 :: u24 :: u25 :: u26 :: u27 :: u28 :: u29 :: u30 :: u31 :: u32 :: u33 :: u34 :: u35 :: u36 :: u37 :: u38 :: u39 :: u40 :: u41 :: u42 :: u43 :: u44 :: u45 :: u46 :: u47 :: u48 :: u49 :: u50 :: u51 :: u52 :: u53 :: u54 :: u55 :: u56 :: u57 :: u58 :: u59 :: u60 :: u61 :: u62 :: u63 :: u64 :: u65 :: u66 :: u67 :: u68 :: u69 :: u70 :: u71 :: u72 :: u73 :: u74 :: u75 :: u76 :: u77 :: u78 :: u79 :: u80 :: u81 :: u82 :: u83 :: u84 :: u85 :: u86 :: u87 :: u88 :: u89 :: u90 :: u91 :: u92 :: u93 :: u94 :: u95 :: u96 :: u97 :: u98 :: u99 :: u100 :: u101 :: u102 :: u103 :: u104 :: u105 :: u106 :: u107 :: u108 :: u109 :: u110 :: u111 :: u112 :: u113 :: u114 :: u115 :: u116 :: u117 :: u118 :: u119 :: u120 :: u121 :: u122 :: u123 :: u124 :: u125 :: u126 :: u127 :: u128 :: u129 :: u130 :: u131 :: u132 :: u133 :: u134 :: u135 :: u136 :: u137 :: u138 :: u139 :: u140 :: u141 :: u142 :: u143 :: u144 :: u145 :: u146 :: u147 :: u148 :: u149 :: u150 :: u151 :: u152 :: u153 :: u154 :: u155 :: u156 :: u157 :: u158 :: u159 :: u160 :: u161 :: u162 :: u163 :: u164 :: u165 :: u166 :: u167 :: u168 :: u169 :: u170 :: u171 :: u172 :: u173 :: u174 :: u175 :: u176 :: u177 :: u178 :: u179 :: u180 :: u181 :: u182 :: u183 :: u184 :: [])) []) w1 := by
  conv => enter [2]; whnf
  have hE1 := hT.fz F (fun z hz hp => hp.elim (fun h => (dis2 z h).2 hz) (fun h => dis3 z h hz))
  have cb := b10.fzT F (fun h => by rcases h with h | h; exact hP.box b10 (by decide) (by decide) h; exact hX.o.box b10 (by decide) (by decide) h)
  have hmx := hE1.o.max
  have hle := hE1.lenE
  unfold maxLen at hmx
  refine wp_seq_k fun K1 hK1 => ?_
  have HK1 : Hid _ := hK1
  clear hK1
  go_wp2
  go_loopw [24] (fun iv wr => ∃ (j : Nat) (ts : List Th), j ≤ tn ∧ iv = .int .i64 j ∧ OvT 68 2 w1 wr lt ta tn tc (et.map Er.th) j j ts) (fun iv _ => tn - (intOf iv).toNat)
  case atStart => exact ⟨0, _, Nat.zero_le _, rfl, hE1.o.ov⟩
  case round =>
    obtain ⟨j, ts, hj, rfl, hO⟩ := hrel
    have cr' := cb.fzT hO.fz (fun h => hE1.o.box cb (by decide) (by decide) h)
    obtain ⟨z0, z1, z2, z3⟩ := BxS.cell4 cr'
    by_cases hlt : j < tn
    · obtain ⟨g, rfl⟩ := hE1.o.someT (by omega)
      obtain ⟨hat, hdt, hmem⟩ := hE1.at hlt
      obtain ⟨x, hx⟩ : ∃ x, et.getD j er00 = x := ⟨_, rfl⟩
      rw [hx] at hat hdt hmem
      have hthi : (et.map Er.th)[j]? = some x.th := by rw [List.getElem?_map, hat]; rfl
      have hA := hO.each j _ (Nat.le_refl _) hthi
      have hA : Ans wr lt x.r.a x.r.n x.r.c x.r.D := hA
      have hn1 : x.r.n ≤ 140737488351240 := by
        have h1 := hEl _ (List.mem_of_getElem? hdt)
        have h2 := hA.len
        have h1 : x.r.D.length ≤ 140737488351232 := h1
        omega
      have q1 : wr.cell? ⟨g, j * 2 + 1, none⟩ = some (.slice x.r.a x.r.n x.r.c) := hO.cell hthi 1 (by decide)
      have l1 : (j : Int) < (tn : Int) := by omega
      clear hx hdt
      refine wp_seq_k fun K3 hK3 => ?_
      have HK3 : Hid _ := hK3
      clear hK3
      go_wp2
      refine HK3.out _ _ ?_
      clear HK3
      refine wp_seq_k fun K4 hK4 => ?_
      have HK4 : Hid _ := hK4
      clear hK4
      refine wp_block ?_
      refine wp_seq_k fun K5 hK5 => ?_
      have HK5 : Hid _ := hK5
      clear hK5
      have s0 : True := trivial
      go_wp2_with (go_at_call 31; have _t := s0; clear s0; refine (spoil_any hA hn1).mono ?_; rintro e w2 ⟨rfl, u2⟩)
      clear z0 z1 z2 z3 q1
      have hO2 := hO.spoiled hE1.o (by decide) hthi u2
      have cr2 := cb.fzT hO2.fz (fun h => hE1.o.box cb (by decide) (by decide) h)
      obtain ⟨z0, z1, z2, z3⟩ := BxS.cell4 cr2
      have hx' : ts[j]? = some x.th := by rw [hO2.same j (Nat.le_refl _)]; exact hthi
      have hjl : j < ts.length := by rw [hO2.len]; exact hlt
      have q0 : w2.cell? ⟨g, j * 2, none⟩ = some (.int .i64 x.x) := by
        have := hO2.own.cells (g := g) rfl (j * 2 + 0) (.int .i64 x.x) (by rw [flT_at hO2.sz j _ hx' 0 (by decide)]; rfl)
        rw [addr_add', Nat.zero_add] at this
        exact this
      have q0f := hO2.own.frozenAt (j * 2)
      have hs2 := (hO2.own.stored (j * 2 + 0) (.int .i64 (-7))).1
      rw [flT_set hO2.sz j _ (Er.th ⟨-7, x.r⟩) hx' 0 (by decide) (.int .i64 (-7)) rfl] at hs2
      have u3 := grown_set w2 g (j * 2 + 0) (.int .i64 (-7))
      have hO3 := hO2.stored (x' := Er.th ⟨-7, x.r⟩) (by decide) hs2 u3 rfl
      have hO3 : OvT 68 2 w1 (w2.setCell ⟨g, j * 2, none⟩ (.int .i64 (-7))) lt (some ⟨g, 0, none⟩) tn tc (et.map Er.th) (j + 1) (j + 1) (ts.set j (Er.th ⟨-7, x.r⟩)) := hO3
      clear hs2 u3
      refine HK5.out _ _ ?_
      clear HK5
      go_wp2
      try simp only [Exit.inBlock, Exit.then]
      refine HK4.out _ _ ?_
      clear HK4
      generalize w2.setCell ⟨g, j * 2, none⟩ (.int .i64 (-7)) = w3 at *
      go_wp2
      go_roundw
      case rel => exact ⟨j + 1, _, by omega, by go_num, hO3⟩
      case measure => simp [intOf]; omega
    · have l1 : ¬ (j : Int) < (tn : Int) := by omega
      go_wp2
      refine HK1.out _ _ ?_
      clear HK1
      refine lh_t22 w w5 wr g5 g10 g12 g17 gc nb cr sz ma r0 r1 r2 ch V Es B Dc ya yn yc ly ey wa wn wc lw ew xa xn xc lx ex ta tn tc lt et qa qn qc lq qs ha hn hc lh hs pa pn pc lp ps b5 b17 b10 b12 hY hW hX hT hQ hH hP hqd hRm hnb hBb hBl hVl hEl hpl G5 hlo dis dis2 dis3 dgc ?_
      exact (F.more (fun z h => h.elim .inl (fun h => .inr (.inl h)))).trans hO.fz (fun z _ hz => .inr (.inr hz))

set_option maxHeartbeats 32000000 in
theorem lh_t12 {{u0 u1 u2 u3 u4 u7 u8 u9 u14 u15 u16 u19 u20 u21 u22 u23 u24 u25 u26 u27 u28 u29 u30 u31 u32 u33 u34 u35 u36 u37 u38 u39 u40 u41 u42 u43 u44 u45 u46 u47 u48 u49 u50 u51 u52 u53 u54 u55 u56 u57 u58 u59 u60 u61 u62 u63 u64 u65 u66 u67 u68 u69 u70 u71 u72 u73 u74 u75 u76 u77 u78 u79 u80 u81 u82 u83 u84 u85 u86 u87 u88 u89 u90 u91 u92 u93 u94 u95 u96 u97 u98 u99 u100 u101 u102 u103 u104 u105 u106 u107 u108 u109 u110 u111 u112 u113 u114 u115 u116 u117 u118 u119 u120 u121 u122 u123 u124 u125 u126 u127 u128 u129 u130 u131 u132 u133 u134 u135 u136 u137 u138 u139 u140 u141 u142 u143 u144 u145 u146 u147 u148 u149 u150 u151 u152 u153 u154 u155 u156 u157 u158 u159 u160 u161 u162 u163 u164 u165 u166 u167 u168 u169 u170 u171 u172 u173 u174 u175 u176 u177 u178 u179 u180 u181 u182 u183 u184 : Value}} (w w5 w1 : World) (g5 g10 g12 g17 gc nb : Nat) (cr sz ma r0 r1 r2 ch : Int) (V Es : List Ed) (B Dc : List Nat) (ya : Option Addr) (yn yc ly : Nat) (ey : List Er) (wa : Option Addr) (wn wc lw : Nat) (ew : List Er) (xa : Option Addr) (xn xc lx : Nat) (ex : List Er) (ta : Option Addr) (tn tc lt : Nat) (et : List Er) (qa : Option Addr) (qn qc lq : Nat) (qs : List Pk) (ha : Option Addr) (hn hc lh : Nat) (hs : List Pk) (pa : Option Addr) (pn pc lp : Nat) (ps : List Pk) (b5 : BxS w5 g5 43 #[.int .i64 r0, .int .i64 r1, .int .i64 r2, .slice wa wn wc]) (b17 : BxS w5 g17 43 #[.int .i64 r0, .int .i64 r1, .int .i64 r2, .slice ya yn yc]) (b10 : BxS w5 g10 43 #[.int .i64 cr, .int .i64 sz, .int .i64 ma, .slice ta tn tc]) (b12 : BxS w5 g12 43 #[.int .i64 r0, .int .i64 r1, .int .i64 r2, .slice xa xn xc]) (hY : OwL w5 ly ya yn yc ey V) (hW : OwL w5 lw wa wn wc ew V) (hX : OwL w5 lx xa xn xc ex V) (hT : OwL w5 lt ta tn tc et Es) (hQ : OwT 66 7 w5 lq qa qn qc (qs.map (Pk.he ch))) (hH : OwT 66 7 w5 lh ha hn hc (hs.map (Pk.he ch))) (hP : OwT 66 7 w5 lp pa pn pc (ps.map (Pk.he ch))) (hqd : qs.map Pk.d = hs.map Pk.d) (hRm : Roomy w5 gc nb B Dc) (hnb : nb ≤ 140737488351232) (hBb : IsB B) (hBl : B.length = nb) (hVl : ∀ e, e ∈ V → e.D.length ≤ 140737488351232) (hEl : ∀ e, e ∈ Es → e.D.length ≤ 140737488351232) (hpl : ∀ p, p ∈ ps → p.n ≤ 140737488351232) (G5 : w.grownBy w5 none) (hlo : w.heap.size ≤ lx ∧ w.heap.size ≤ lt ∧ w.heap.size ≤ lp ∧ w.heap.size ≤ gc) (dis : ∀ z, (Tbl (.slice pa pn pc) (ps.map (Pk.he ch)) z ∨ Tbl (.slice xa xn xc) (ex.map Er.th) z ∨ Tbl (.slice ta tn tc) (et.map Er.th) z) → ¬ Tbl (.slice ya yn yc) (ey.map Er.th) z ∧ ¬ Tbl (.slice wa wn wc) (ew.map Er.th) z ∧ ¬ Tbl (.slice qa qn qc) (qs.map (Pk.he ch)) z ∧ ¬ Tbl (.slice ha hn hc) (hs.map (Pk.he ch)) z ∧ z ≠ gc) (dis2 : ∀ z, Tbl (.slice pa pn pc) (ps.map (Pk.he ch)) z → ¬ Tbl (.slice xa xn xc) (ex.map Er.th) z ∧ ¬ Tbl (.slice ta tn tc) (et.map Er.th) z) (dis3 : ∀ z, Tbl (.slice xa xn xc) (ex.map Er.th) z → ¬ Tbl (.slice ta tn tc) (et.map Er.th) z) (dgc : ¬ Tbl (.slice ya yn yc) (ey.map Er.th) gc ∧ ¬ Tbl (.slice wa wn wc) (ew.map Er.th) gc ∧ ¬ Tbl (.slice qa qn qc) (qs.map (Pk.he ch)) gc ∧ ¬ Tbl (.slice ha hn hc) (hs.map (Pk.he ch)) gc) (F : Fz (fun z => Tbl (.slice pa pn pc) (ps.map (Pk.he ch)) z) w5 w1) :
    Code.wp Try.prog (tailR 12 (Try.f9.body.getD .skip)) (bodyPost Try.prog Try.f9 (fun e w' => e = .returned (.bool true) ∧ w.grownBy w' none)) (Act.mk (List.toArray (u0 :: u1 :: u2 :: u3 :: u4 :: (.pointer (some ⟨g5, 0, none⟩)) :: (.slice ha hn hc) :: u7 :: u8 :: u9 :: (.pointer (some ⟨g10, 0, none⟩)) :: (.slice (some ⟨gc, 0, none⟩) nb (nb + 5)) :: (.pointer (some ⟨g12, 0, none⟩)) :: (.slice pa pn pc) :: u14 :: u15 :: u16 :: (.pointer (some ⟨g17, 0, none⟩)) :: (.slice qa qn qc) :: u19 :: u20 :: u21 :: u22 :: u23 :: u24 :: u25 :: u26 :: u27 :: u28 :: u29 :: u30 :: u31 :: u32 :: u33 :: u34 :: u35 :: u36 :: u37 :: u38 :: u39 :: u40 :: u41 :: u42 :: u43 :: u44 :: u45 :: u46 :: u47 :: u48 :: u49 :: u50 :: u51 :: u52 :: u53 :: u54 :: u55 :: u56 :: u57 :: u58 :: u59 :: u60 :: u61 :: u62 :: u63 :: u64 :: u65 :: u66 :: u67 :: u68 :: u69 :: u70 :: u71 :: u72 :: u73 :: u74 :: u75 :: u76 :: u77 :: u78 :: u79 :: u80 :: u81 :: u82 :: u83 :: u84 :: u85 :: u86 :: u87 :: u88 :: u89 :: u90 :: u91 :: u92 :: u93 :: u94 :: u95 :: u96 :: u97 :: u98 :: u99 :: u100 :: u101 :: u102 :: u103 :: u104 :: u105 :: u106 :: u107 :: u108 :: u109 :: u110 :: u111 :: u112 :: u113 :: u114 :: u115 :: u116 :: u117 :: u118 :: u119 :: u120 :: u121 :: u122 :: u123 :: u124 :: u125 :: u126 :: u127 :: u128 :: u129 :: u130 :: u131 :: u132 :: u133 :: u134 :: u135 :: u136 :: u137 :: u138 :: u139 :: u140 :: u141 :: u142 :: u143 :: u144 :: u145 :: u146 :: u147 :: u148 :: u149 :: u150 :: u151 :: u152 :: u153 :: u154 :: u155 :: u156 :: u157 :: u158 :: u159 :: u160 :: u161 :: u162 :: u163 :: u164 :: u165 :: u166 :: u167 :: u168 :: u169 :: u170 :: u171 :: u172 :: u173 :: u174 :: u175 :: u176 :: u177 :: u178 :: u179 :: u180 :: u181 :: u182 :: u183 :: u184 :: [])) []) w1 := by
  conv => enter [2]; whnf
  have hE1 := hX.fz F (fun z hz hp => (dis2 z hp).1 hz)
  have cb := b12.fzT F (fun h => by exact hP.box b12 (by decide) (by decide) h)
  have hmx := hE1.o.max
  have hle := hE1.lenE
  unfold maxLen at hmx
  refine wp_seq_k fun K1 hK1 => ?_
  have HK1 : Hid _ := hK1
  clear hK1
  go_wp2
  go_loopw [23] (fun iv wr => ∃ (j : Nat) (ts : List Th), j ≤ xn ∧ iv = .int .i64 j ∧ OvT 68 2 w1 wr lx xa xn xc (ex.map Er.th) j j ts) (fun iv _ => xn - (intOf iv).toNat)
  case atStart => exact ⟨0, _, Nat.zero_le _, rfl, hE1.o.ov⟩
  case round =>
    obtain ⟨j, ts, hj, rfl, hO⟩ := hrel
    have cr' := cb.fzT hO.fz (fun h => hE1.o.box cb (by decide) (by decide) h)
    obtain ⟨z0, z1, z2, z3⟩ := BxS.cell4 cr'
    by_cases hlt : j < xn
    · obtain ⟨g, rfl⟩ := hE1.o.someT (by omega)
      obtain ⟨hat, hdt, hmem⟩ := hE1.at hlt
      obtain ⟨x, hx⟩ : ∃ x, ex.getD j er00 = x := ⟨_, rfl⟩
      rw [hx] at hat hdt hmem
      have hthi : (ex.map Er.th)[j]? = some x.th := by rw [List.getElem?_map, hat]; rfl
      have hA := hO.each j _ (Nat.le_refl _) hthi
      have hA : Ans wr lx x.r.a x.r.n x.r.c x.r.D := hA
      have hn1 : x.r.n ≤ 140737488351240 := by
        have h1 := hVl _ (List.mem_of_getElem? hdt)
        have h2 := hA.len
        have h1 : x.r.D.length ≤ 140737488351232 := h1
        omega
      have q1 : wr.cell? ⟨g, j * 2 + 1, none⟩ = some (.slice x.r.a x.r.n x.r.c) := hO.cell hthi 1 (by decide)
      have l1 : (j : Int) < (xn : Int) := by omega
      clear hx hdt
      refine wp_seq_k fun K3 hK3 => ?_
      have HK3 : Hid _ := hK3
      clear hK3
      go_wp2
      refine HK3.out _ _ ?_
      clear HK3
      refine wp_seq_k fun K4 hK4 => ?_
      have HK4 : Hid _ := hK4
      clear hK4
      refine wp_block ?_
      refine wp_seq_k fun K5 hK5 => ?_
      have HK5 : Hid _ := hK5
      clear hK5
      have s0 : True := trivial
      go_wp2_with (go_at_call 31; have _t := s0; clear s0; refine (spoil_any hA hn1).mono ?_; rintro e w2 ⟨rfl, u2⟩)
      clear z0 z1 z2 z3 q1
      have hO2 := hO.spoiled hE1.o (by decide) hthi u2
      have cr2 := cb.fzT hO2.fz (fun h => hE1.o.box cb (by decide) (by decide) h)
      obtain ⟨z0, z1, z2, z3⟩ := BxS.cell4 cr2
      have hx' : ts[j]? = some x.th := by rw [hO2.same j (Nat.le_refl _)]; exact hthi
      have hjl : j < ts.length := by rw [hO2.len]; exact hlt
      have q0 : w2.cell? ⟨g, j * 2, none⟩ = some (.int .i64 x.x) := by
        have := hO2.own.cells (g := g) rfl (j * 2 + 0) (.int .i64 x.x) (by rw [flT_at hO2.sz j _ hx' 0 (by decide)]; rfl)
        rw [addr_add', Nat.zero_add] at this
        exact this
      have q0f := hO2.own.frozenAt (j * 2)
      have hs2 := (hO2.own.stored (j * 2 + 0) (.int .i64 (-7))).1
      rw [flT_set hO2.sz j _ (Er.th ⟨-7, x.r⟩) hx' 0 (by decide) (.int .i64 (-7)) rfl] at hs2
      have u3 := grown_set w2 g (j * 2 + 0) (.int .i64 (-7))
      have hO3 := hO2.stored (x' := Er.th ⟨-7, x.r⟩) (by decide) hs2 u3 rfl
      have hO3 : OvT 68 2 w1 (w2.setCell ⟨g, j * 2, none⟩ (.int .i64 (-7))) lx (some ⟨g, 0, none⟩) xn xc (ex.map Er.th) (j + 1) (j + 1) (ts.set j (Er.th ⟨-7, x.r⟩)) := hO3
      clear hs2 u3
      refine HK5.out _ _ ?_
      clear HK5
      go_wp2
      try simp only [Exit.inBlock, Exit.then]
      refine HK4.out _ _ ?_
      clear HK4
      generalize w2.setCell ⟨g, j * 2, none⟩ (.int .i64 (-7)) = w3 at *
      go_wp2
      go_roundw
      case rel => exact ⟨j + 1, _, by omega, by go_num, hO3⟩
      case measure => simp [intOf]; omega
    · have l1 : ¬ (j : Int) < (xn : Int) := by omega
      go_wp2
      refine HK1.out _ _ ?_
      clear HK1
      refine lh_t17 w w5 wr g5 g10 g12 g17 gc nb cr sz ma r0 r1 r2 ch V Es B Dc ya yn yc ly ey wa wn wc lw ew xa xn xc lx ex ta tn tc lt et qa qn qc lq qs ha hn hc lh hs pa pn pc lp ps b5 b17 b10 b12 hY hW hX hT hQ hH hP hqd hRm hnb hBb hBl hVl hEl hpl G5 hlo dis dis2 dis3 dgc ?_
      exact (F.more (fun z h => .inl h)).trans hO.fz (fun z _ hz => .inr hz)

set_option maxHeartbeats 32000000 in
theorem lh_t7 {u0 u1 u2 u3 u4 u7 u8 u9 u14 u15 u16 u19 u20 u21 u22 u23 u24 u25 u26 u27 u28 u29 u30 u31 u32 u33 u34 u35 u36 u37 u38 u39 u40 u41 u42 u43 u44 u45 u46 u47 u48 u49 u50 u51 u52 u53 u54 u55 u56 u57 u58 u59 u60 u61 u62 u63 u64 u65 u66 u67 u68 u69 u70 u71 u72 u73 u74 u75 u76 u77 u78 u79 u80 u81 u82 u83 u84 u85 u86 u87 u88 u89 u90 u91 u92 u93 u94 u95 u96 u97 u98 u99 u100 u101 u102 u103 u104 u105 u106 u107 u108 u109 u110 u111 u112 u113 u114 u115 u116 u117 u118 u119 u120 u121 u122 u123 u124 u125 u126 u127 u128 u129 u130 u131 u132 u133 u134 u135 u136 u137 u138 u139 u140 u141 u142 u143 u144 u145 u146 u147 u148 u149 u150 u151 u152 u153 u154 u155 u156 u157 u158 u159 u160 u161 u162 u163 u164 u165 u166 u167 u168 u169 u170 u171 u172 u173 u174 u175 u176 u177 u178 u179 u180 u181 u182 u183 u184 : Value} (w w5 w1 : World) (g5 g10 g12 g17 gc nb : Nat) (cr sz ma r0 r1 r2 ch : Int) (V Es : List Ed) (B Dc : List Nat) (ya : Option Addr) (yn yc ly : Nat) (ey : List Er) (wa : Option Addr) (wn wc lw : Nat) (ew : List Er) (xa : Option Addr) (xn xc lx : Nat) (ex : List Er) (ta : Option Addr) (tn tc lt : Nat) (et : List Er) (qa : Option Addr) (qn qc lq : Nat) (qs : List Pk) (ha : Option Addr) (hn hc lh : Nat) (hs : List Pk) (pa : Option Addr) (pn pc lp : Nat) (ps : List Pk) (b5 : BxS w5 g5 43 #[.int .i64 r0, .int .i64 r1, .int .i64 r2, .slice wa wn wc]) (b17 : BxS w5 g17 43 #[.int .i64 r0, .int .i64 r1, .int .i64 r2, .slice ya yn yc]) (b10 : BxS w5 g10 43 #[.int .i64 cr, .int .i64 sz, .int .i64 ma, .slice ta tn tc]) (b12 : BxS w5 g12 43 #[.int .i64 r0, .int .i64 r1, .int .i64 r2, .slice xa xn xc]) (hY : OwL w5 ly ya yn yc ey V) (hW : OwL w5 lw wa wn wc ew V) (hX : OwL w5 lx xa xn xc ex V) (hT : OwL w5 lt ta tn tc et Es) (hQ : OwT 66 7 w5 lq qa qn qc (qs.map (Pk.he ch))) (hH : OwT 66 7 w5 lh ha hn hc (hs.map (Pk.he ch))) (hP : OwT 66 7 w5 lp pa pn pc (ps.map (Pk.he ch))) (hqd : qs.map Pk.d = hs.map Pk.d) (hRm : Roomy w5 gc nb B Dc) (hnb : nb ≤ 140737488351232) (hBb : IsB B) (hBl : B.length = nb) (hVl : ∀ e, e ∈ V → e.D.length ≤ 140737488351232) (hEl : ∀ e, e ∈ Es → e.D.length ≤ 140737488351232) (hpl : ∀ p, p ∈ ps → p.n ≤ 140737488351232) (G5 : w.grownBy w5 none) (hlo : w.heap.size ≤ lx ∧ w.heap.size ≤ lt ∧ w.heap.size ≤ lp ∧ w.heap.size ≤ gc) (dis : ∀ z, (Tbl (.slice pa pn pc) (ps.map (Pk.he ch)) z ∨ Tbl (.slice xa xn xc) (ex.map Er.th) z ∨ Tbl (.slice ta tn tc) (et.map Er.th) z) → ¬ Tbl (.slice ya yn yc) (ey.map Er.th) z ∧ ¬ Tbl (.slice wa wn wc) (ew.map Er.th) z ∧ ¬ Tbl (.slice qa qn qc) (qs.map (Pk.he ch)) z ∧ ¬ Tbl (.slice ha hn hc) (hs.map (Pk.he ch)) z ∧ z ≠ gc) (dis2 : ∀ z, Tbl (.slice pa pn pc) (ps.map (Pk.he ch)) z → ¬ Tbl (.slice xa xn xc) (ex.map Er.th) z ∧ ¬ Tbl (.slice ta tn tc) (et.map Er.th) z) (dis3 : ∀ z, Tbl (.slice xa xn xc) (ex.map Er.th) z → ¬ Tbl (.slice ta tn tc) (et.map Er.th) z) (dgc : ¬ Tbl (.slice ya yn yc) (ey.map Er.th) gc ∧ ¬ Tbl (.slice wa wn wc) (ew.map Er.th) gc ∧ ¬ Tbl (.slice qa qn qc) (qs.map (Pk.he ch)) gc ∧ ¬ Tbl (.slice ha hn hc) (hs.map (Pk.he ch)) gc) (hw15 : Hid (w1 = w5)) :
    Code.wp Try.prog (tailR 7 (Try.f9.body.getD .skip)) (bodyPost Try.prog Try.f9 (fun e w' => e = .returned (.bool true) ∧ w.grownBy w' none)) (Act.mk (List.toArray (u0 :: u1 :: u2 :: u3 :: u4 :: (.pointer (some ⟨g5, 0, none⟩)) :: (.slice ha hn hc) :: u7 :: u8 :: u9 :: (.pointer (some ⟨g10, 0, none⟩)) :: (.slice (some ⟨gc, 0, none⟩) nb (nb + 5)) :: (.pointer (some ⟨g12, 0, none⟩)) :: (.slice pa pn pc) :: u14 :: u15 :: u16 :: (.pointer (some ⟨g17, 0, none⟩)) :: (.slice qa qn qc) :: u19 :: u20 :: u21 :: u22 :: u23 :: u24 :: u25 :: u26 :: u27 :: u28 :: u29 :: u30 :: u31 :: u32 :: u33 :: u34 :: u35 :: u36 :: u37 :: u38 :: u39 :: u40 :: u41 :: u42 :: u43 :: u44 :: u45 :: u46 :: u47 :: u48 :: u49 :: u50 :: u51 :: u52 :: u53 :: u54 :: u55 :: u56 :: u57 :: u58 :: u59 :: u60 :: u61 :: u62 :: u63 :: u64 :: u65 :: u66 :: u67 :: u68 :: u69 :: u70 :: u71 :: u72 :: u73 :: u74 :: u75 :: u76 :: u77 :: u78 :: u79 :: u80 :: u81 :: u82 :: u83 :: u84 :: u85 :: u86 :: u87 :: u88 :: u89 :: u90 :: u91 :: u92 :: u93 :: u94 :: u95 :: u96 :: u97 :: u98 :: u99 :: u100 :: u101 :: u102 :: u103 :: u104 :: u105 :: u106 :: u107 :: u108 :: u109 :: u110 :: u111 :: u112 :: u113 :: u114 :: u115 :: u116 :: u117 :: u118 :: u119 :: u120 :: u121 :: u122 :: u123 :: u124 :: u125 :: u126 :: u127 :: u128 :: u129 :: u130 :: u131 :: u132 :: u133 :: u134 :: u135 :: u136 :: u137 :: u138 :: u139 :: u140 :: u141 :: u142 :: u143 :: u144 :: u145 :: u146 :: u147 :: u148 :: u149 :: u150 :: u151 :: u152 :: u153 :: u154 :: u155 :: u156 :: u157 :: u158 :: u159 :: u160 :: u161 :: u162 :: u163 :: u164 :: u165 :: u166 :: u167 :: u168 :: u169 :: u170 :: u171 :: u172 :: u173 :: u174 :: u175 :: u176 :: u177 :: u178 :: u179 :: u180 :: u181 :: u182 :: u183 :: u184 :: [])) []) w1 := by
  conv => enter [2]; whnf
  have hw := hw15.out
  subst hw
  clear hw15
  have i7 := Try.info_he7
  have hmx := hP.max
  have hle : ps.length = pn := by have := hP.len; rw [List.length_map] at this; exact this
  unfold maxLen at hmx
  refine wp_seq_k fun K1 hK1 => ?_
  have HK1 : Hid _ := hK1
  clear hK1
  go_wp2
  go_loopw [22] (fun iv wr => ∃ (j : Nat) (ts : List Th), j ≤ pn ∧ iv = .int .i64 j ∧ OvT 66 7 w1 wr lp pa pn pc (ps.map (Pk.he ch)) j j ts) (fun iv _ => pn - (intOf iv).toNat)
  case atStart => exact ⟨0, _, Nat.zero_le _, rfl, hP.ov⟩
  case round =>
    obtain ⟨j, ts, hj, rfl, hO⟩ := hrel
    by_cases hlt : j < pn
    · obtain ⟨g, rfl⟩ := hP.someT (by omega)
      have hp : ps[j]? = some (ps.getD j pk0) := by rw [List.getD_eq_getElem?_getD, List.getElem?_eq_getElem (by omega)]; rfl
      generalize ps.getD j pk0 = p at *
      have hthi : (ps.map (Pk.he ch))[j]? = some (p.he ch) := by rw [List.getElem?_map, hp]; rfl
      have hA : Ans wr lp p.a p.n p.c p.D := hO.each j _ (Nat.le_refl _) hthi
      have hn1 := hpl p (List.mem_of_getElem? hp)
      have q6 : wr.cell? ⟨g, j * 7 + 6, none⟩ = some (.slice p.a p.n p.c) := hO.cell hthi 6 (by decide)
      have q61 : wr.cell? ⟨g, j * 7 + 1 + 5, none⟩ = some (.slice p.a p.n p.c) := q6
      have l1 : (j : Int) < (pn : Int) := by omega
      refine wp_seq_k fun K3 hK3 => ?_
      have HK3 : Hid _ := hK3
      clear hK3
      go_wp2
      refine HK3.out _ _ ?_
      clear HK3
      refine wp_seq_k fun K4 hK4 => ?_
      have HK4 : Hid _ := hK4
      clear hK4
      refine wp_block ?_
      refine wp_seq_k fun K5 hK5 => ?_
      have HK5 : Hid _ := hK5
      clear hK5
      have s0 : True := trivial
      go_wp2_with (go_at_call 31; have _t := s0; clear s0; refine (spoil_any hA (by omega)).mono ?_; rintro e w2 ⟨rfl, u2⟩)
      clear q6 q61
      have hO2 := hO.spoiled hP (by decide) hthi u2
      refine HK5.out _ _ ?_
      clear HK5
      have s0 : True := trivial
      go_wp2_with (have _t := s0; clear s0; refine wpList_stTh i7 _ rfl _ _ rfl g j pn pc _ ts ⟨[.int .i64 (-7), .bool false, .bool false, .int .i64 0, .int .i64 0, .int .i64 0, .slice none 0 0], kr0⟩ rfl rfl _ rfl rfl rfl (by intro u hu; simp only [List.mem_cons, List.not_mem_nil, or_false] at hu; rcases hu with rfl | rfl | rfl | rfl | rfl | rfl | rfl <;> rfl) hO2.own hO2.sz hO2.len hlt ?_; intro w3 ho3 u3)
      have hO3 := hO2.stored (x' := ⟨[.int .i64 (-7), .bool false, .bool false, .int .i64 0, .int .i64 0, .int .i64 0, .slice none 0 0], kr0⟩) (by decide) ho3 u3 rfl
      try simp only [Exit.inBlock, Exit.then]
      refine HK4.out _ _ ?_
      clear HK4
      go_wp2
      go_roundw
      case rel => exact ⟨j + 1, _, by omega, by go_num, hO3⟩
      case measure => simp [intOf]; omega
    · have l1 : ¬ (j : Int) < (pn : Int) := by omega
      go_wp2
      refine HK1.out _ _ ?_
      clear HK1
      exact lh_t12 w w1 wr g5 g10 g12 g17 gc nb cr sz ma r0 r1 r2 ch V Es B Dc ya yn yc ly ey wa wn wc lw ew xa xn xc lx ex ta tn tc lt et qa qn qc lq qs ha hn hc lh hs pa pn pc lp ps b5 b17 b10 b12 hY hW hX hT hQ hH hP hqd hRm hnb hBb hBl hVl hEl hpl G5 hlo dis dis2 dis3 dgc hO.fz

theorem dcD_len (B : List Nat) : (dcD B).length ≤ 65536 := by
  unfold dcD
  split
  · rw [List.length_take]; have : hdV B 6 % 65536 < 65536 := Nat.mod_lt _ (by decide); omega
  · exact Nat.zero_le _
theorem spR_len (f : Nat) : ∀ B : List Nat, (spR f B).length ≤ B.length := by
  induction f with
  | zero => intro B; exact Nat.le_refl _
  | succ f ih =>
    intro B
    by_cases h : dcE B = 0
    · have e : spR (f + 1) B = spR f (B.drop (dcK B)) := if_pos h
      have := ih (B.drop (dcK B))
      rw [List.length_drop] at this
      rw [e]; omega
    · have e : spR (f + 1) B = B := if_neg h
      rw [e]; exact Nat.le_refl _
theorem hr_len {cr sz ma : Int} {Es : List Ed} {B : List Nat} {r0 r1 r2 : Int} {V : List Ed} {ch : Int} {Ps : List Pd} {lost : Int} {st E : Nat} (h : HR cr sz ma Es B r0 r1 r2 V ch Ps lost st E) : (∀ e, e ∈ V → e.D.length ≤ 100000) ∧ ∀ p, p ∈ Ps → p.D.length ≤ 65536 := by
  rcases h.p with ⟨_, _, _, _, rfl, rfl, _⟩ | ⟨hl, _, _, _, _, rfl, rfl, _⟩ | ⟨hl, _, _, _, _, _, rfl, rfl, _⟩ | ⟨hl, h0, h7, _, _, _, rfl, rfl, _⟩
  · exact ⟨(fun e h => by cases h), (fun e h => by cases h)⟩
  · exact ⟨fun e he => by have := ((leD_ok hl).2.2.2.2 e he).2.1; omega, (fun e h => by cases h)⟩
  · exact ⟨fun e he => by have := ((leD_ok hl).2.2.2.2 e he).2.1; omega, (fun e h => by cases h)⟩
  · have hall := (leD_ok hl).2.2.2.2
    have hlen := (leD_ok hl).2.2.2.1
    refine ⟨fun e he => ?_, fun p hp => ?_⟩
    · rcases List.mem_or_eq_of_mem_set he with he | rfl
      · have := (hall e he).2.1; omega
      · show (keL (heG Es B)).length ≤ 100000
        have h1 : (keL (heG Es B)).length ≤ (heG Es B).length := by
          unfold keL
          split
          · exact spR_len _ _
          · exact Nat.zero_le _
        have h2 := goL_len (if (Es.getD (hrH B) ed0).x = ((hrO B : Nat) : Int) then (Es.getD (hrH B) ed0).D else []) (unD B) (hrF B)
        have h2 : (heG Es B).length ≤ _ := h2
        have h3 : (if (Es.getD (hrH B) ed0).x = ((hrO B : Nat) : Int) then (Es.getD (hrH B) ed0).D else []).length ≤ 65541 := by
          split
          · have hm : Es.getD (hrH B) ed0 ∈ Es := by rw [List.getD_eq_getElem?_getD, List.getElem?_eq_getElem (by omega)]; exact List.getElem_mem _
            exact (hall _ hm).2.1
          · exact Nat.zero_le _
        have hu : unE B = 0 := by
          unfold erN at h0
          split at h0
          · rename_i hu; exact hu
          · rename_i hu; exact absurd h0 hu
        have h4 := un_dlen hu
        have h5 := un_sz hu
        omega
    · have hp := (List.mem_filter.1 hp).1
      obtain ⟨S, _, rfl⟩ := List.mem_map.1 hp
      exact dcD_len S

set_option maxHeartbeats 64000000 in
theorem hears_walk (cr sz ma : Int) (a : Option Addr) (n c : Nat) (Es : List Ed) (b : Option Addr) (nb cb : Nat) (B : List Nat) (w : World) (h : RdL w a n c Es) (hb : Rd w b nb cb B) (f1 : ∀ e, e ∈ Es → e.D.length ≤ 140737488351232) (f2 : n * 32 ≤ 140737488351232) (f3 : nb ≤ 140737488351232) :
    Calls Try.prog 9 #[.agg #[.int .i64 cr, .int .i64 sz, .int .i64 ma, .slice a n c], .slice b nb cb] w fun e w' => e = .returned (.bool true) ∧ w.grownBy w' none := by
  obtain ⟨r0, r1, r2, V, ch, Ps, lost, st, E, hN⟩ := hr_ex cr sz ma Es B
  obtain ⟨hVl, hPl⟩ := hr_len hN
  have HN : Hid _ := hN
  clear hN
  have i4 := Try.info_li
  have hlB := hb.len
  have hBb := hb.byte
  have b0 := BxS.new w 43 #[.int .i64 cr, .int .i64 sz, .int .i64 ma, .slice a n c]
  have g0 := World.grownBy_alloc w (.cells #[.int .i64 cr, .int .i64 sz, .int .i64 ma, .slice a n c] 43) none
  generalize hw0 : w.alloc (.cells #[.int .i64 cr, .int .i64 sz, .int .i64 ma, .slice a n c] 43) = w0 at b0 g0
  have z0 := g0.size
  go_enter Try.func9, Try.ntmps9
  refine wp_seq_k fun K0 hK0 => ?_
  have HK0 : Hid _ := hK0
  clear hK0
  go_wp2
  refine HK0.out _ _ ?_
  clear HK0
  refine wp_seq_k fun K1 hK1 => ?_
  have HK1 : Hid _ := hK1
  clear hK1
  have s0 : True := trivial
  go_wp2_with (first
    | (have _t := s0; clear s0; refine wpList_ldX _ rfl _ (.tmp 2) rfl w.heap.size _ rfl b0 Try.underlying43 i4 ?_; have s1 : True := trivial)
    | (go_at_call 35; have _t := s1; clear s1; refine (rhear_any cr sz ma a n c Es b nb cb B w0 (h.keep g0) (hb.keep g0) f3 r0 r1 r2 ch V Ps lost st E HN.out).mono ?_; rintro e wA ⟨wa, wn, wc, ew, ha, hn, hc, hs, rfl, hW, hH, hhd, _, gA⟩; have bn1 := BxS.new wA 43 #[.int .i64 0, .int .i64 0, .int .i64 0, .slice none 0 0]; have gn1 := World.grownBy_alloc wA (.cells #[.int .i64 0, .int .i64 0, .int .i64 0, .slice none 0 0] 43) none; generalize hw1 : wA.alloc (.cells #[.int .i64 0, .int .i64 0, .int .i64 0, .slice none 0 0] 43) = wn1 at bn1 gn1; have s2 : True := trivial)
    | (have _t := s2; clear s2; refine wpList_stX _ rfl _ (.tmp 5) (.tmp 29) rfl wA.heap.size _ _ rfl rfl bn1 i4 rfl (by simp [Value.oneCell']) ?_; intro w1 b5 u1))
  have Y1 := grown_far gn1 u1 (fun q e => by have e := Option.some.inj e; omega)
  have zA := gA.size
  have hWhi : ∀ z, Tbl (.slice wa wn wc) (ew.map Er.th) z → w0.heap.size ≤ z ∧ z < wA.heap.size := fun z hz => ⟨(hW.o.hi hz).2, (hW.o.hi hz).1⟩
  have hHhi : ∀ z, Tbl (.slice ha hn hc) (hs.map (Pk.he ch)) z → w0.heap.size ≤ z ∧ z < wA.heap.size := fun z hz => ⟨(hH.hi hz).2, (hH.hi hz).1⟩
  have hW1 := hW.keep Y1
  have hH1 := hH.keep Y1
  have G1 := grown_trans (grown_trans g0 gA) Y1
  have b01 := (b0.keep gA (by simp)).keep Y1 (by simp)
  have z1 := Y1.size
  have hR1 := h.keep G1
  have hb1 := hb.keep G1
  clear bn1 gn1 u1 hw1 hW hH b0
  refine HK1.out _ _ ?_
  clear HK1
  refine wp_seq_k fun K2 hK2 => ?_
  have HK2 : Hid _ := hK2
  clear hK2
  have s0 : True := trivial
  go_wp2_with (first
    | (have _t := s0; clear s0; refine wpList_ldX _ rfl _ (.tmp 2) rfl w.heap.size _ rfl b01 Try.underlying43 i4 ?_; have s1 : True := trivial)
    | (go_at_call 36; have _t := s1; clear s1; refine (listenerOf_any cr sz ma a n c Es w1 hR1 f1 f2).mono ?_; rintro e w2 ⟨ta, tc, et, rfl, hT, g2⟩; have s2 : True := trivial)
    | (go_at_call 12; have _t := s2; clear s2; refine (roomy_any b nb cb B w2 (hb1.keep g2) f3).mono ?_; rintro e w3 ⟨rfl, ⟨Dc, hRm⟩, g3⟩; have bn2 := BxS.new w3 43 #[.int .i64 0, .int .i64 0, .int .i64 0, .slice none 0 0]; have gn2 := World.grownBy_alloc w3 (.cells #[.int .i64 0, .int .i64 0, .int .i64 0, .slice none 0 0] 43) none; generalize hw2 : w3.alloc (.cells #[.int .i64 0, .int .i64 0, .int .i64 0, .slice none 0 0] 43) = wn2 at bn2 gn2; have s3 : True := trivial)
    | (have _t := s3; clear s3; refine wpList_stX _ rfl _ (.tmp 10) (.tmp 35) rfl w3.heap.size _ _ rfl rfl bn2 i4 rfl (by simp [Value.oneCell']) ?_; intro w4 b10 u4))
  have Y4 := grown_far gn2 u4 (fun q e => by have e := Option.some.inj e; omega)
  have z2 := g2.size
  have z3 := g3.size
  have z4 := Y4.size
  have hTlt := fun z hz => (hT.o.hi (x := z) hz)
  have hgc := hRm.blk.lt
  have Y14 := grown_trans (grown_trans g2 g3) Y4
  have hT4 := (hT.keep g3).keep Y4
  have hRm4 := hRm.keep Y4
  have hW4 := hW1.keep Y14
  have hH4 := hH1.keep Y14
  have G4 := grown_trans G1 Y14
  have b04 := b01.keep Y14 (by simp)
  have b54 := b5.keep Y14 (by simp)
  have hcR : Rd w4 (some ⟨w2.heap.size, 0, none⟩) nb (nb + 5) B := (hRm4.ans (lo := 0) hBb hlB f3 (Nat.zero_le _)).rd
  clear bn2 gn2 u4 hw2 hRm hW1 hH1 b01 b5
  refine HK2.out _ _ ?_
  clear HK2
  refine wp_seq_k fun K3 hK3 => ?_
  have HK3 : Hid _ := hK3
  clear hK3
  have s0 : True := trivial
  go_wp2_with (first
    | (have _t := s0; clear s0; refine wpList_ldX _ rfl _ (.tmp 10) rfl w3.heap.size _ rfl b10 Try.underlying43 i4 ?_; have s1 : True := trivial)
    | (go_at_call 37; have _t := s1; clear s1; refine (hear_any cr sz ma ta n tc Es _ nb (nb + 5) B w4 hT4.rd hcR r0 r1 r2 ch V Ps lost st E HN.out).mono ?_; rintro e w5 ⟨xa, xn, xc, ex, pa, pn, pc, ps, rfl, hX, hP, hpd, hdp, g5⟩; have bn3 := BxS.new w5 43 #[.int .i64 0, .int .i64 0, .int .i64 0, .slice none 0 0]; have gn3 := World.grownBy_alloc w5 (.cells #[.int .i64 0, .int .i64 0, .int .i64 0, .slice none 0 0] 43) none; generalize hw3 : w5.alloc (.cells #[.int .i64 0, .int .i64 0, .int .i64 0, .slice none 0 0] 43) = wn3 at bn3 gn3; have s2 : True := trivial)
    | (have _t := s2; clear s2; refine wpList_stX _ rfl _ (.tmp 12) (.tmp 42) rfl w5.heap.size _ _ rfl rfl bn3 i4 rfl (by simp [Value.oneCell']) ?_; intro w6 b12 u6))
  have Y6 := grown_far gn3 u6 (fun q e => by have e := Option.some.inj e; omega)
  have z5 := g5.size
  have z6 := Y6.size
  have Y46 := grown_trans g5 Y6
  have hXhi : ∀ z, Tbl (.slice xa xn xc) (ex.map Er.th) z → w4.heap.size ≤ z ∧ z < w5.heap.size := fun z hz => ⟨(hX.o.hi hz).2, (hX.o.hi hz).1⟩
  have hPhi : ∀ z, Tbl (.slice pa pn pc) (ps.map (Pk.he ch)) z → w4.heap.size ≤ z ∧ z < w5.heap.size := fun z hz => ⟨(hP.hi hz).2, (hP.hi hz).1⟩
  have hX6 := hX.keep Y6
  have hP6 := hP.keep Y6
  have hT6 := hT4.keep Y46
  have hRm6 := hRm4.keep Y46
  have hW6 := hW4.keep Y46
  have hH6 := hH4.keep Y46
  have G6 := grown_trans G4 Y46
  have b06 := b04.keep Y46 (by simp)
  have b56 := b54.keep Y46 (by simp)
  have b106 := b10.keep Y46 (by simp)
  have hcR6 := hcR.keep Y46
  clear bn3 gn3 u6 hw3 hX hP hT4 hRm4 hW4 hH4 b04 b54 b10 hcR
  refine HK3.out _ _ ?_
  clear HK3
  refine wp_seq_k fun K4 hK4 => ?_
  have HK4 : Hid _ := hK4
  clear hK4
  have s0 : True := trivial
  go_wp2_with (first
    | (have _t := s0; clear s0; refine wpList_ldX _ rfl _ (.tmp 10) rfl w3.heap.size _ rfl b106 Try.underlying43 i4 ?_; have s1 : True := trivial)
    | (go_at_call 37; have _t := s1; clear s1; refine (hear_any cr sz ma ta n tc Es _ nb (nb + 5) B w6 hT6.rd hcR6 r0 r1 r2 ch V Ps lost st E HN.out).mono ?_; rintro e w7 ⟨ya, yn, yc, ey, qa, qn, qc, qs, rfl, hY, hQ, hqd, _, g7⟩; have bn4 := BxS.new w7 43 #[.int .i64 0, .int .i64 0, .int .i64 0, .slice none 0 0]; have gn4 := World.grownBy_alloc w7 (.cells #[.int .i64 0, .int .i64 0, .int .i64 0, .slice none 0 0] 43) none; generalize hw4 : w7.alloc (.cells #[.int .i64 0, .int .i64 0, .int .i64 0, .slice none 0 0] 43) = wn4 at bn4 gn4; have s2 : True := trivial)
    | (have _t := s2; clear s2; refine wpList_stX _ rfl _ (.tmp 17) (.tmp 51) rfl w7.heap.size _ _ rfl rfl bn4 i4 rfl (by simp [Value.oneCell']) ?_; intro w8 b17 u8))
  have Y8 := grown_far gn4 u8 (fun q e => by have e := Option.some.inj e; omega)
  have z7 := g7.size
  have z8 := Y8.size
  have Y68 := grown_trans g7 Y8
  have hYhi : ∀ z, Tbl (.slice ya yn yc) (ey.map Er.th) z → w6.heap.size ≤ z ∧ z < w7.heap.size := fun z hz => ⟨(hY.o.hi hz).2, (hY.o.hi hz).1⟩
  have hQhi : ∀ z, Tbl (.slice qa qn qc) (qs.map (Pk.he ch)) z → w6.heap.size ≤ z ∧ z < w7.heap.size := fun z hz => ⟨(hQ.hi hz).2, (hQ.hi hz).1⟩
  have hY8 := hY.keep Y8
  have hQ8 := hQ.keep Y8
  have hX8 := hX6.keep Y68
  have hP8 := hP6.keep Y68
  have hT8 := hT6.keep Y68
  have hRm8 := hRm6.keep Y68
  have hW8 := hW6.keep Y68
  have hH8 := hH6.keep Y68
  have G8 := grown_trans G6 Y68
  have b08 := b06.keep Y68 (by simp)
  have b58 := b56.keep Y68 (by simp)
  have b108 := b106.keep Y68 (by simp)
  have b128 := b12.keep Y68 (by simp)
  clear bn4 gn4 u8 hw4 hY hQ hX6 hP6 hT6 hRm6 hW6 hH6 b06 b56 b106 b12 hcR6
  refine HK4.out _ _ ?_
  clear HK4
  refine wp_seq_k fun K5 hK5 => ?_
  have HK5 : Hid _ := hK5
  clear hK5
  have s0 : True := trivial
  have hR8 := h.keep G8
  have hb8 := hb.keep G8
  have kS : ∀ {aa bb : Option Addr} {nn mm cc dd l1 l2 : Nat} {e1 e2 : List Er} (wz : World), w8.grownBy wz none → OwL w8 l1 aa nn cc e1 V → OwL w8 l2 bb mm dd e2 V → Calls Try.prog 26 #[.agg #[.int .i64 r0, .int .i64 r1, .int .i64 r2, .slice aa nn cc], .agg #[.int .i64 r0, .int .i64 r1, .int .i64 r2, .slice bb mm dd]] wz fun e w' => e = .returned (.bool true) ∧ wz.grownBy w' none := fun wz hg h1 h2 => sameListener2_any r0 r1 r2 _ _ _ _ _ _ V wz (h1.keep hg).rd (h2.keep hg).rd
  have kT : ∀ (wz : World), w8.grownBy wz none → Calls Try.prog 26 #[.agg #[.int .i64 cr, .int .i64 sz, .int .i64 ma, .slice ta n tc], .agg #[.int .i64 cr, .int .i64 sz, .int .i64 ma, .slice a n c]] wz fun e w' => e = .returned (.bool true) ∧ wz.grownBy w' none := fun wz hg => sameListener2_any cr sz ma _ _ _ _ _ _ Es wz (hT8.keep hg).rd (hR8.keep hg)
  obtain ⟨a0, a1, a2, a3⟩ := BxS.cell4 b128
  obtain ⟨d0, d1, d2, d3⟩ := BxS.cell4 b58
  go_wp2_with (first
    | (go_at_call 26; have _t := s0; clear s0; refine (kS w8 (World.grownBy.refl _ _) hX8 hW8).mono ?_; rintro e w9 ⟨rfl, g9⟩; clear a0 a1 a2 a3 d0 d1 d2 d3; obtain ⟨a0, a1, a2, a3⟩ := BxS.cell4 (b17.keep g9 (by simp)); obtain ⟨d0, d1, d2, d3⟩ := BxS.cell4 (b58.keep g9 (by simp)); have s5 : True := trivial)
    | (go_at_call 26; have _t := s5; clear s5; refine (kS w9 g9 hY8 hW8).mono ?_; rintro e w10 ⟨rfl, g10⟩; have Y10 := grown_trans g9 g10; clear a0 a1 a2 a3 d0 d1 d2 d3; have s6 : True := trivial)
    | (go_at_call 38; have _t := s6; clear s6; refine (sameHeard_any ch pa ha pn pc hn hc _ _ ps hs w10 (hP8.keep Y10) (hH8.keep Y10) (by rw [hpd, hhd])).mono ?_; rintro e w11 ⟨rfl, g11⟩; have Y11 := grown_trans Y10 g11; have s7 : True := trivial)
    | (go_at_call 38; have _t := s7; clear s7; refine (sameHeard_any ch qa ha qn qc hn hc _ _ qs hs w11 (hQ8.keep Y11) (hH8.keep Y11) (by rw [hqd, hhd])).mono ?_; rintro e w12 ⟨rfl, g12⟩; have Y12 := grown_trans Y11 g12; obtain ⟨a0, a1, a2, a3⟩ := BxS.cell4 (b108.keep Y12 (by simp)); obtain ⟨d0, d1, d2, d3⟩ := BxS.cell4 (b08.keep Y12 (by simp)); have s10 : True := trivial)
    | (go_at_call 26; have _t := s10; clear s10; refine (kT w12 Y12).mono ?_; rintro e w13 ⟨rfl, g13⟩; have Y13 := grown_trans Y12 g13; clear a0 a1 a2 a3 d0 d1 d2 d3; have s11 : True := trivial)
    | (go_at_call 15; have _t := s11; clear s11; refine (left_any w2.heap.size b nb cb B Dc w13 (hRm8.keep Y13) (hb8.keep Y13) f3).mono ?_; rintro e w14 ⟨rfl, g14⟩))
  have Y14' := grown_trans Y13 g14
  refine HK5.out _ _ ?_
  clear HK5
  refine lh_t7 w w14 w14 wA.heap.size w3.heap.size w5.heap.size w7.heap.size w2.heap.size nb cr sz ma r0 r1 r2 ch V Es B Dc ya yn yc _ ey wa wn wc _ ew xa xn xc _ ex ta n tc _ et qa qn qc _ qs ha hn hc _ hs pa pn pc _ ps (b58.keep Y14' (by simp)) (b17.keep Y14' (by simp)) (b108.keep Y14' (by simp)) (b128.keep Y14' (by simp)) (hY8.keep Y14') (hW8.keep Y14') (hX8.keep Y14') (hT8.keep Y14') (hQ8.keep Y14') (hH8.keep Y14') (hP8.keep Y14') (by rw [hqd, hhd]) (hRm8.keep Y14') f3 hBb hlB (fun e he => by have := hVl e he; omega) f1 (fun p hp => ?_) (grown_trans G8 Y14') ⟨by omega, by omega, by omega, by omega⟩ ?_ ?_ ?_ ?_ (show _ = _ from rfl)
  · have h1 := (hP8.each _ (List.mem_map_of_mem (f := Pk.he ch) hp)).len
    have h1 : p.D.length = p.n := h1
    have h2 : p.d ∈ Ps := by rw [← hpd]; exact List.mem_map_of_mem hp
    have := hPl _ h2
    have : p.D.length ≤ 65536 := this
    omega
  · intro z hz
    have hr : (w4.heap.size ≤ z ∧ z < w5.heap.size) ∨ (w1.heap.size ≤ z ∧ z < w2.heap.size) := by
      rcases hz with hz | hz | hz
      · exact .inl (hPhi z hz)
      · exact .inl (hXhi z hz)
      · exact .inr ⟨(hTlt z hz).2, (hTlt z hz).1⟩
    refine ⟨fun e => by have := hYhi z e; omega, fun e => by have := hWhi z e; omega, fun e => by have := hQhi z e; omega, fun e => by have := hHhi z e; omega, by omega⟩
  · intro z hz
    exact ⟨hdp z hz, fun e => by have := hPhi z hz; have := hTlt z e; omega⟩
  · intro z hz e
    have := hXhi z hz; have := hTlt z e; omega
  · exact ⟨fun e => by have := hYhi _ e; omega, fun e => by have := hWhi _ e; omega, fun e => by have := hQhi _ e; omega, fun e => by have := hHhi _ e; omega⟩

open Go.ChangeShapes Go.WideShapes
abbrev ShEa : Sh := .fcons 1 (.int .i64) (.fcons 1 (.slice 1 1 (.int .u8)) .fend)
theorem met_ear {w : World} {full : Bool} {n : Nat} {cs : List Value} (h : ShEa.met w full cs n) : ∃ e : Er, cs = [.int .i64 e.x, .slice e.r.a e.r.n e.r.c] ∧ Rd w e.r.a e.r.n e.r.c e.r.D ∧ (full = true → e.r.c ≤ 140737488351232) := by
  obtain ⟨_, _, rfl, ⟨_, z0, e0, _⟩, _, _, rfl, h1, e2, _⟩ := h
  obtain ⟨a, len, cap, L, e1, hR, hf, hn⟩ := met_bytes h1
  refine ⟨⟨z0, ⟨a, len, cap, L⟩⟩, ?_, hR, hf⟩
  match cs with
  | [] => simp at e0
  | [_] => simp at e1
  | [x0, x1] => simp_all
  | x0 :: x1 :: x2 :: r => simp at e2
theorem met_ears {w : World} {full : Bool} {k : Nat} {cs : List Value} (h : (Sh.slice 2 32 ShEa).met w full cs k) :
    ∃ (a : Option Addr) (n c : Nat) (Es : List Ed), cs = [.slice a n c] ∧ RdL w a n c Es ∧ (full = true → (∀ e, e ∈ Es → e.D.length ≤ 140737488351232) ∧ n * 32 ≤ 140737488351232) := by
  rcases h with ⟨rfl, rfl⟩ | ⟨x, len, cap, G, C, rfl, rfl, hl, hm, hf, hc⟩
  · exact ⟨none, 0, 0, [], rfl, RdL.nil w, fun _ => ⟨(fun e h => by cases h), by omega⟩⟩
  · have each : ∀ i, i < cap → ∃ e : Er, (∀ j, j < 2 → w.cell? (x.add (i * 2 + j)) = [Value.int .i64 e.x, .slice e.r.a e.r.n e.r.c][j]?) ∧ Rd w e.r.a e.r.n e.r.c e.r.D ∧ (full = true → e.r.c ≤ 140737488351232) := by
      intro i hi
      obtain ⟨h1, h2, h3⟩ := hc i hi
      obtain ⟨e, he, hk⟩ := met_ear h3
      refine ⟨e, fun j hj => ?_, hk⟩
      rw [h2 j hj, he]
    have hI : Inhabited Er := ⟨er00⟩
    obtain ⟨F, hF⟩ := Go.Deep.choose_lt each
    have hlm : ((List.range len).map fun i => (F i).d).length = len := by simp
    refine ⟨some x, len, cap, (List.range len).map fun i => (F i).d, rfl, ⟨hlm, F, ⟨hl, hm, fun h0 => ?_, fun i hi => (hF i (by omega)).2.1⟩, fun i hi => ?_⟩, fun hfull => ⟨fun e he => ?_, ?_⟩⟩
    · obtain ⟨b, off, spot⟩ := x
      have hc0 := (hF 0 (by omega)).1 0 (by decide)
      have h0' : w.cell? (⟨b, off, spot⟩ : Addr) = some (.int .i64 (F 0).x) := by simpa [Addr.add] using hc0
      have hspot : spot = none := by simpa using World.cell?_spot h0'
      subst hspot
      refine ⟨b, off, rfl, World.block_lt_of_cell? w _ h0', fun i hi => ⟨?_, ?_⟩⟩
      · have := (hF i (by omega)).1 0 (by decide)
        rw [addr_add'] at this
        exact this
      · have := (hF i (by omega)).1 1 (by decide)
        rw [addr_add'] at this
        exact this
    · have e : ((List.range len).map fun i => (F i).d).getD i ed0 = (F i).d := by rw [List.getD_eq_getElem?_getD, List.getElem?_map, List.getElem?_range hi]; rfl
      rw [e]
      exact ⟨rfl, rfl⟩
    · obtain ⟨i, hi, rfl⟩ := List.mem_map.1 he
      have hi := List.mem_range.1 hi
      have h1 := (hF i (by omega)).2.1
      have h2 := (hF i (by omega)).2.2 hfull
      have h3 := h1.len
      have h4 := h1.le
      show (F i).r.D.length ≤ _
      omega
    · have := hf hfull
      have hr : reachBytes = 140737488351232 := by decide
      have h2 : cap * 32 ≤ 140737488351232 := by rw [← hr]; exact this
      omega
abbrev ShLi : Sh := .fcons 1 (.int .i64) (.fcons 1 (.int .i64) (.fcons 1 (.int .i64) (.fcons 1 (.slice 2 32 ShEa) .fend)))
theorem shown_listener {w : World} {full : Bool} {k : Nat} {v : Value} (h : ShLi.shown w full v k) :
    ∃ (cr sz ma : Int) (a : Option Addr) (n c : Nat) (Es : List Ed), v = .agg #[.int .i64 cr, .int .i64 sz, .int .i64 ma, .slice a n c] ∧ RdL w a n c Es ∧ (full = true → (∀ e, e ∈ Es → e.D.length ≤ 140737488351232) ∧ n * 32 ≤ 140737488351232) := by
  obtain ⟨cs, rfl, hm⟩ := h
  obtain ⟨_, _, rfl, ⟨_, z0, e0, _⟩, _, _, rfl, ⟨_, z1, e1, _⟩, _, _, rfl, ⟨_, z2, e2, _⟩, _, _, rfl, h4, e5, _⟩ := hm
  obtain ⟨a4, n4, c4, R4, e4, hR4, hf4⟩ := met_ears h4
  refine ⟨z0, z1, z2, a4, n4, c4, R4, ?_, hR4, hf4⟩
  congr 1
  apply Array.toList_inj.1
  generalize cs.toList = l at *
  match l with
  | [] => simp at e0
  | [_] => simp at e1
  | [_, _] => simp at e2
  | [_, _, _] => simp at e4
  | [x0, x1, x2, x3] => simp_all
  | x0 :: x1 :: x2 :: x3 :: x4 :: r => simp at e5
end Go.Proofs.Ytlmddjkplnbadaa
