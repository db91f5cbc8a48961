import Derived.Test.YthdjpbfknbafgaaTLd
namespace Go.Proofs.Ythdjpbfknbafgaa
open Go.RowKit Go.Shelf
set_option maxRecDepth 100000
set_option linter.unusedVariables false
set_option linter.unusedSimpArgs false
attribute [local go_sem] Oper.semAt_some

theorem Rd.keepF {w w' : World} {p : Nat → Prop} {a : Option Addr} {n c : Nat} {L : List Nat} (h : Rd w a n c L) (hF : Frm (fun _ => False) w w') : Rd w' a n c L := h.keep ⟨hF.os, hF.tape, hF.output, hF.size, fun k hk _ => hF.block k hk (fun h => h)⟩
set_option maxHeartbeats 16000000 in
theorem li_8 {u0 u1 u2 u3 u7 u9 u10 u11 u12 u13 u14 u15 u16 u17 u18 u19 u20 u21 u22 u23 u24 u25 u26 u27 u29 u31 u32 u33 u34 u35 u36 u37 u38 u39 u40 u41 u42 u43 u44 u45 u46 u47 u48 u49 u50 u51 u52 u53 u54 u55 u56 u57 u58 u59 u60 u61 u62 u63 u64 u65 u66 u67 : Value} {Q : Exit → Act → World → Prop} (w0 w : World) (g i np cp po bp : Nat) (a4 a5 a6 : Option Addr) (c4 c5 c6 : Nat) (r : Rx) (s : Mx) (Ts : List (List Fa)) (Bs : List Bool) (Ds : List Nat) (a : Option Addr) (m cap : Nat) (B : List Nat)
    (J : LsI w0 g r s i Ts Bs a4 a5 a6 c4 c5 c6 Ds w) (hi : i < np) (hnp : np ≤ 4000000000000) (cI : w.cell? ⟨bp, po + i, none⟩ = some (.slice a m cap)) (hR : Rd w0 a m cap B) (hm : m ≤ 4194304) (htk : s.tk + m ≤ 4611686018427387904) (hL1 : 1 ≤ r.L) (hL : r.L ≤ 2048) (hF : r.F ≤ 64) (hM : r.M ≤ 64)
    (hQ : ∀ g4 d4 g5 d5 g6 d6 D1 D2 D3 W z11 z12 z13 z14 z32 z33 z34 z35 z36 z37 z43 z45 z51 z52 z53 z54 z55 z56 z57 z58 z59 z60 z61 z62 z63 z64, LsI w0 g r (tkX r s B m).1 (i + 1) (Ts ++ [(tkX r s B m).2]) (Bs ++ [(tkX r s B m).1.mode != 0]) (some ⟨g4, 0, none⟩) (some ⟨g5, 0, none⟩) (some ⟨g6, 0, none⟩) d4 d5 d6 (D3 :: D2 :: D1 :: Ds) W → Q .normal (Act.mk (List.toArray (u0 :: u1 :: u2 :: u3 :: (.slice (some ⟨g4, 0, none⟩) (i + 1) d4) :: (.slice (some ⟨g5, 0, none⟩) (i + 1) d5) :: (.slice (some ⟨g6, 0, none⟩) (i + 1) d6) :: u7 :: (.pointer (some ⟨g, 0, none⟩)) :: u9 :: u10 :: z11 :: z12 :: z13 :: z14 :: u15 :: u16 :: u17 :: u18 :: u19 :: u20 :: u21 :: u22 :: u23 :: u24 :: u25 :: u26 :: u27 :: (.slice (some ⟨bp, po, none⟩) np cp) :: u29 :: (.int .i64 ((i + 1 : Nat) : Int)) :: u31 :: z32 :: z33 :: z34 :: z35 :: z36 :: z37 :: u38 :: u39 :: u40 :: u41 :: u42 :: z43 :: u44 :: z45 :: u46 :: u47 :: u48 :: u49 :: u50 :: z51 :: z52 :: z53 :: z54 :: z55 :: z56 :: z57 :: z58 :: z59 :: z60 :: z61 :: z62 :: z63 :: z64 :: u65 :: u66 :: u67 :: [])) (mark D3 :: mark D2 :: mark D1 :: Ds.map mark)) W) :
    Code.wp Try.prog (tailR 8 (Try.f8.body.getD .skip)) Q (Act.mk (List.toArray (u0 :: u1 :: u2 :: u3 :: (.slice a4 i c4) :: (.slice a5 i c5) :: (.slice a6 i c6) :: u7 :: (.pointer (some ⟨g, 0, none⟩)) :: u9 :: u10 :: u11 :: u12 :: u13 :: u14 :: u15 :: u16 :: u17 :: u18 :: u19 :: u20 :: u21 :: u22 :: u23 :: u24 :: u25 :: u26 :: u27 :: (.slice (some ⟨bp, po, none⟩) np cp) :: u29 :: (.int .i64 (i : Nat)) :: u31 :: u32 :: u33 :: u34 :: u35 :: u36 :: u37 :: u38 :: u39 :: u40 :: u41 :: u42 :: u43 :: u44 :: u45 :: u46 :: u47 :: u48 :: u49 :: u50 :: u51 :: u52 :: u53 :: u54 :: u55 :: u56 :: u57 :: u58 :: u59 :: u60 :: u61 :: u62 :: u63 :: u64 :: u65 :: u66 :: u67 :: [])) (Ds.map mark)) w := by
  conv => enter [2]; whnf
  have HQ : Hid _ := hQ
  clear hQ
  obtain ⟨dv, V4, V5, hS, hdv, hA4, hO4, hA5, hO5⟩ := J.sy
  have hRw := Rd.keepF (p := fun _ => False) hR J.fr
  have hsep : 0 < m → ∀ b off, a = some ⟨b, off, none⟩ → b ≠ g ∧ some b ≠ dv.ownBlock := fun h0 b off e => by
    obtain ⟨b', off', e', hb', _⟩ := hR.at' h0
    rw [e] at e'
    cases e'
    have := J.hg
    refine ⟨by omega, fun e2 => ?_⟩
    have := hdv b e2.symm
    omega
  have hii : (i : Int) < (np : Int) := by omega
  refine wp_seq_k fun K0 hK0 => ?_
  have HK0 : Hid _ := hK0
  clear hK0
  refine wp_block ?_
  refine wp_seq_k fun K8 hK8 => ?_
  have HK8 : Hid _ := hK8
  clear hK8
  go_wp2
  refine HK8.out _ _ ?_
  clear HK8
  refine wp_seq_k fun K9 hK9 => ?_
  have HK9 : Hid _ := hK9
  clear hK9
  go_wp2_with (go_at_call 17; refine (take_any g r s dv a m cap B w hS J.inv hRw hsep hm htk hL1 hL hF hM).mono ?_; rintro e w1 ⟨rfl, dv', v', fs', hS1, hF1, hab, hdv1, hv1, F1⟩)
  refine HK9.out _ _ ?_
  clear HK9
  refine wp_seq_k fun K10 hK10 => ?_
  have HK10 : Hid _ := hK10
  clear hK10
  go_wp2
  refine HK10.out _ _ ?_
  clear HK10
  have bA0 := (Boxed.new w1 33 (.slice none 0 0)).alloc (.cells #[.slice none 0 0] 33)
  have bB0 := Boxed.new (w1.alloc (.cells #[.slice none 0 0] 33)) 33 (.slice none 0 0)
  have F2 : Frm (fun _ => False) w1 ((w1.alloc (.cells #[.slice none 0 0] 33)).alloc (.cells #[.slice none 0 0] 33)) := (Frm.of (p := fun _ => False) (World.grownBy_alloc w1 _ none) (fun k e _ => by cases e)).trans (Frm.of (p := fun _ => False) (World.grownBy_alloc _ _ none) (fun k e _ => by cases e)) (fun _ _ h => h)
  have hz2 : w1.heap.size + 2 ≤ ((w1.alloc (.cells #[.slice none 0 0] 33)).alloc (.cells #[.slice none 0 0] 33)).heap.size := by simp
  obtain ⟨bA, hbA⟩ : ∃ bA, bA = w1.heap.size := ⟨_, rfl⟩
  obtain ⟨bB, hbB⟩ : ∃ bB, bB = (w1.alloc (.cells #[.slice none 0 0] 33)).heap.size := ⟨_, rfl⟩
  have hbB' : bB = w1.heap.size + 1 := by rw [hbB]; simp
  rw [← hbA] at bA0
  rw [← hbB] at bB0
  rw [← hbB', ← hbA]
  rw [← hbA] at hz2
  have hfb : w.heap.size < w1.heap.size := hF1.box.lt
  have hlt1 := hF1.lt
  have hgw : g < w.heap.size := hS.blk.lt
  have hzw := F1.size
  have hn : ∀ f, f ∈ fs' → 0 < f.n ∧ f.n ≤ 2048 := fun f hf => by
    have h1 : f.D.length = r.L := tkX_D r s B m (absF f) (by rw [← hab]; exact List.mem_map_of_mem hf)
    have h2 := (hF1.ok f hf).1.len
    omega
  have hlen : fs'.length ≤ 4194304 := by
    have h1 := tkX_len r s B m
    rw [← hab, List.length_map] at h1
    omega
  have hd1 : ∀ x, dv'.ownBlock = some x → x < bA := fun x hx => by rw [hbA]; exact hS1.dlt x hx
  have hF2 : FdB ((w1.alloc (.cells #[.slice none 0 0] 33)).alloc (.cells #[.slice none 0 0] 33)) w.heap.size v' dv' fs' := hF1.frm F2 (fun h => h) (fun _ _ h => h) (fun _ _ _ _ h => h) (fun x hx => .inl hx)
  have hS2 := hS1.frm F2 (fun h => h) (fun _ _ h => h)
  have cT := hS.cellsT
  have hO41 : OnR w1 w0.heap.size dv' V4 Ts := hO4.step F1 (fun k hk hl => by
    rcases cT k hk hl with h | ⟨cs, h⟩
    · exact .inl h
    · exact .inr ⟨cs, _, h, by decide, by decide⟩) hdv1
  have hO51 : OnR w1 w0.heap.size dv' V5 Ts := hO5.step F1 (fun k hk hl => by
    rcases cT k hk hl with h | ⟨cs, h⟩
    · exact .inl h
    · exact .inr ⟨cs, _, h, by decide, by decide⟩) hdv1
  have noT : ∀ {e : TypeId} {ao : Option Addr} {no co : Nat} {X : List Value}, AnsX e w w0.heap.size ao no co X → e ≠ 5 → e ≠ 65 → ∀ x, (Value.slice ao no co).ownBlock = some x → ¬ (x = g ∨ some x = dv.ownBlock) := fun hA n1 n2 x hx hp => by
    obtain ⟨hl, cur, hc⟩ := row_lt hA.own hx
    rcases cT x hp hl with ⟨cs, h, _⟩ | ⟨cs, h⟩
    · exact cells_ne hc h n1
    · exact cells_ne hc h n2
  have no4 := noT hA4 (by decide) (by decide)
  have no5 := noT hA5 (by decide) (by decide)
  have no6 := noT J.lk (by decide) (by decide)
  have hA41 := hA4.frm F1 no4
  have hA51 := hA5.frm F1 no5
  have hA61 := J.lk.frm F1 no6
  have l4 : ∀ x, (Value.slice a4 i c4).ownBlock = some x → x < w.heap.size := fun x hx => (row_lt hA4.own hx).1
  have l5 : ∀ x, (Value.slice a5 i c5).ownBlock = some x → x < w.heap.size := fun x hx => (row_lt hA5.own hx).1
  have l6 : ∀ x, (Value.slice a6 i c6).ownBlock = some x → x < w.heap.size := fun x hx => (row_lt J.lk.own hx).1
  have b46 : ∀ x, (Value.slice a4 i c4).ownBlock = some x → (Value.slice a6 i c6).ownBlock ≠ some x := fun x hx hy => cells_ne' hA4 J.lk hx hy
  have b56 : ∀ x, (Value.slice a5 i c5).ownBlock = some x → (Value.slice a6 i c6).ownBlock ≠ some x := fun x hx hy => cells_ne' hA5 J.lk hx hy
  have dne : ∀ x, x < w.heap.size → ¬ (x = g ∨ some x = dv.ownBlock) → dv'.ownBlock ≠ some x := fun x hl hp hx => by
    rcases hdv1 x hx with h | h
    · exact hp (.inr h.symm)
    · omega
  have de1 := de_frm J.de F1 (fun k hk hl => by
    rcases cT k hk hl with ⟨cs, h, _⟩ | ⟨cs, h⟩
    · exact ⟨cs, _, h⟩
    · exact ⟨cs, _, h⟩)
  have dl1 : ∀ D, D ∈ Ds → D < w.heap.size := fun D hD => (Array.getElem?_eq_some_iff.1 (J.de D hD)).1
  have de2 := de_frm de1 F2 (fun k hk _ => hk.elim)
  have HS1 : Hid _ := hS1
  clear hS1 hF1 hRw hsep hbB
  generalize ((w1.alloc (.cells #[.slice none 0 0] 33)).alloc (.cells #[.slice none 0 0] 33)) = W2 at *
  refine wp_seq_k fun K11 hK11 => ?_
  have HK11 : Hid _ := hK11
  clear hK11
  refine li_11 W2 hF2 hn hlen bA0 (fun hk => by have := hlt1 _ hk; omega) ?_
  intro D1 ys W3 hD1 hys hC1 he1
  simp only [Exit.then]
  refine HK11.out _ _ ?_
  clear HK11
  have F3 := hC1.frm
  have hl3 : D1 < W3.heap.size := (Array.getElem?_eq_some_iff.1 he1).1
  have hz3 := F3.size
  have nb : ∀ k, FdP w.heap.size v' fs' k → k ≠ bA := fun k hk => by have := hlt1 k hk; omega
  have hF3 : FdB W3 w.heap.size v' dv' fs' := hF2.frm F3 (nb _ (.inl rfl)) (fun x hx => nb x (.inr (.inl hx.symm))) (fun f hf x hx => nb x (.inr (.inr ⟨f, hf, hx.symm⟩))) (fun x hx => .inl hx)
  obtain ⟨p1, n1, q1, bx1, hR1⟩ := hC1.told hys hab (dv := dv') (fun x hx => by have := hd1 x hx; omega)
  have bB3 := box_frm bB0 F3 (by omega)
  have de3 : ∀ D, D ∈ D1 :: Ds → W3.heap[D]? = some (.deferred (some [])) := fun D hD => by
    rcases List.mem_cons.1 hD with rfl | hD
    · exact he1
    · exact de_frm de2 F3 (fun k hk _ => by rw [hk]; exact ⟨_, _, bA0⟩) D hD
  refine wp_seq_k fun K14 hK14 => ?_
  have HK14 : Hid _ := hK14
  clear hK14
  refine li_14 W3 hF3 hn hlen ?_
  intro D2 W4 hD2 F4 he2
  simp only [Exit.then]
  refine HK14.out _ _ ?_
  clear HK14
  have hl4 : D2 < W4.heap.size := (Array.getElem?_eq_some_iff.1 he2).1
  have hz4 := F4.size
  have hF4 : FdB W4 w.heap.size v' dv' fs' := hF3.frm F4 (fun h => h) (fun _ _ h => h) (fun _ _ _ _ h => h) (fun x hx => .inl hx)
  have bB4 := box_frm bB3 F4 (fun h => h)
  have bx4 := box_frm bx1 F4 (fun h => h)
  have de4 : ∀ D, D ∈ D2 :: D1 :: Ds → W4.heap[D]? = some (.deferred (some [])) := fun D hD => by
    rcases List.mem_cons.1 hD with rfl | hD
    · exact he2
    · exact de_frm de3 F4 (fun k hk _ => hk.elim) D hD
  refine wp_seq_k fun K15 hK15 => ?_
  have HK15 : Hid _ := hK15
  clear hK15
  refine li_15 W4 hF4 hn hlen bB4 (fun hk => by have := hlt1 _ hk; omega) ?_
  intro D3 ys' W5 hD3 hys' hC2 he3
  simp only [Exit.then]
  refine HK15.out _ _ ?_
  clear HK15
  have F5 := hC2.frm
  have hl5 : D3 < W5.heap.size := (Array.getElem?_eq_some_iff.1 he3).1
  have hz5 := F5.size
  obtain ⟨p2, n2, q2, bx2, hR2⟩ := hC2.told hys' hab (dv := dv') (fun x hx => by have := hd1 x hx; omega)
  have bx5 := box_frm bx4 F5 (by omega)
  have de5 : ∀ D, D ∈ D3 :: D2 :: D1 :: Ds → W5.heap[D]? = some (.deferred (some [])) := fun D hD => by
    rcases List.mem_cons.1 hD with rfl | hD
    · exact he3
    · exact de_frm de4 F5 (fun k hk _ => by rw [hk]; exact ⟨_, _, bB4⟩) D hD
  have F25 : Frm (fun k => k = bA ∨ k = bB) W2 W5 := ((F3.weak (fun _ _ h => .inl h)).trans F4 (fun _ _ h => h.elim)).trans F5 (fun _ _ h => .inr h)
  have F15 : Frm (fun _ => False) w1 W5 := F2.trans F25 (fun k hk h => by omega)
  have hR15 := (hR1.frm F4 (fun k hk _ => hk.elim)).frm F5 (fun k hk _ => by rw [hk]; exact .inr ⟨_, _, bB4, by decide, by decide⟩)
  have hS5 := HS1.out.frm F15 (fun h => h) (fun _ _ h => h)
  have hO45 := hO41.frm F15 (fun k hk _ => hk.elim)
  have hO55 := hO51.frm F15 (fun k hk _ => hk.elim)
  have hA45 := hA41.frm F15 (fun _ _ h => h)
  have hA55 := hA51.frm F15 (fun _ _ h => h)
  have hA65 := hA61.frm F15 (fun _ _ h => h)
  have hF0 := J.fr
  have hz0 := hF0.size
  have hw0g := J.hg
  refine wp_mono (Q := fun e a' w' => e = .normal ∧ K0 a' w') (li_18 W5 w0.heap.size i g bA bB a4 a5 a6 p1 p2 c4 c5 c6 n1 q1 n2 q2 V4 V5 (Bs.map Value.bool) r (tkX r s B m).1 dv' bx5.cell bx2.cell hA45 hA55 hA65 (by omega) (by omega) hS5
    (fun x hx => ⟨by have := l4 x hx; omega, by have := l4 x hx; omega, fun e => no4 x hx (.inl e), dne x (l4 x hx) (no4 x hx), J.ap x hx, b46 x hx⟩)
    (fun x hx => ⟨by have := l5 x hx; omega, by have := l5 x hx; omega, fun e => no5 x hx (.inl e), dne x (l5 x hx) (no5 x hx), b56 x hx⟩)
    (fun h => by have := l6 _ h; omega) (fun h => by have := l6 _ h; omega) (fun c a a' w _ h => by cases h.1) ?_) (fun e a' w' h => by obtain ⟨rfl, h⟩ := h; exact h)
  intro g4 d4 g5 d5 g6 d6 W6 z51 z52 z53 z54 z55 z56 z57 z58 z59 z60 z61 z62 z63 hB4 hB5 hB6 h45 F6
  refine ⟨rfl, ?_⟩
  refine HK0.out _ _ ?_
  clear HK0
  have HJ : LsI w0 g r (tkX r s B m).1 (i + 1) (Ts ++ [(tkX r s B m).2]) (Bs ++ [(tkX r s B m).1.mode != 0]) (some ⟨g4, 0, none⟩) (some ⟨g5, 0, none⟩) (some ⟨g6, 0, none⟩) d4 d5 d6 (D3 :: D2 :: D1 :: Ds) W6 := by
    have hc4 : ∀ k, (Value.slice a4 i c4).ownBlock = some k → ∃ cs, W5.heap[k]? = some (.cells cs 33) := fun k hk => (row_lt hA45.own hk).2
    have hc5 : ∀ k, (Value.slice a5 i c5).ownBlock = some k → ∃ cs, W5.heap[k]? = some (.cells cs 33) := fun k hk => (row_lt hA55.own hk).2
    have hc6 : ∀ k, (Value.slice a6 i c6).ownBlock = some k → ∃ cs, W5.heap[k]? = some (.cells cs 4) := fun k hk => (row_lt hA65.own hk).2
    have hp6 : ∀ k, ((Value.slice a4 i c4).ownBlock = some k ∨ (Value.slice a5 i c5).ownBlock = some k ∨ (Value.slice a6 i c6).ownBlock = some k) → k < W5.heap.size → (∃ cs, W5.heap[k]? = some (.cells cs 5) ∧ dv'.ownBlock = some k) ∨ ∃ cs t, W5.heap[k]? = some (.cells cs t) ∧ t ≠ 42 ∧ t ≠ 5 := fun k hk _ => by
      rcases hk with h | h | h
      · obtain ⟨cs, e⟩ := hc4 k h; exact .inr ⟨cs, _, e, by decide, by decide⟩
      · obtain ⟨cs, e⟩ := hc5 k h; exact .inr ⟨cs, _, e, by decide, by decide⟩
      · obtain ⟨cs, e⟩ := hc6 k h; exact .inr ⟨cs, _, e, by decide, by decide⟩
    have hlow : w0.heap.size ≤ W2.heap.size := by omega
    refine ⟨⟨dv', _, _, hS5.frm F6 ?_ ?_, ?_, hB4, (hO45.frm F6 hp6).add ((hR15.low hlow).frm F6 hp6), hB5, (hO55.frm F6 hp6).add ((hR2.low (by omega)).frm F6 hp6)⟩, tkX_inv hL1 J.inv B m, hw0g, ?_, ?_, ?_, ?_, ?_, ?_⟩
    · rintro (h | h | h)
      · exact no4 g h (.inl rfl)
      · exact no5 g h (.inl rfl)
      · exact no6 g h (.inl rfl)
    · rintro x hx (h | h | h)
      · exact dne x (l4 x h) (no4 x h) hx
      · exact dne x (l5 x h) (no5 x h) hx
      · exact dne x (l6 x h) (no6 x h) hx
    · intro x hx
      rcases hdv1 x hx with h | h
      · exact hdv x h
      · omega
    · intro x hx hy
      have e1 : g4 = x := Option.some.inj hx
      have e2 : g5 = x := Option.some.inj hy
      exact h45 (e1.trans e2.symm)
    · rw [List.map_append]; exact hB6
    · refine ((hF0.trans F1 (fun k hk h => ?_)).trans F15 (fun _ _ h => h)).trans F6 (fun k hk h => ?_)
      · rcases h with h | h
        · omega
        · have := hdv k h.symm; omega
      · rcases h with h | h | h
        · have := hA4.new k h; omega
        · have := hA5.new k h; omega
        · have := J.lk.new k h; omega
    · refine List.nodup_cons.2 ⟨fun h => ?_, List.nodup_cons.2 ⟨fun h => ?_, List.nodup_cons.2 ⟨fun h => ?_, J.nd⟩⟩⟩
      · rcases List.mem_cons.1 h with h | h
        · omega
        · rcases List.mem_cons.1 h with h | h
          · omega
          · have := dl1 _ h; omega
      · rcases List.mem_cons.1 h with h | h
        · omega
        · have := dl1 _ h; omega
      · have := dl1 _ h; omega
    · refine de_frm de5 F6 (fun k hk _ => ?_)
      rcases hk with h | h | h
      · obtain ⟨cs, e⟩ := hc4 k h; exact ⟨cs, _, e⟩
      · obtain ⟨cs, e⟩ := hc5 k h; exact ⟨cs, _, e⟩
      · obtain ⟨cs, e⟩ := hc6 k h; exact ⟨cs, _, e⟩
    · intro D hD
      rcases List.mem_cons.1 hD with h | hD
      · omega
      · rcases List.mem_cons.1 hD with h | hD
        · omega
        · rcases List.mem_cons.1 hD with h | hD
          · omega
          · exact J.dg D hD
  have HH : Hid _ := HJ
  clear HJ hF2 hS2 hO41 hO51 hA41 hA51 hA61 hO45 hO55 hA45 hA55 hA65 hR1 hR2 hR15 hS5 F1 F2 F3 F4 F5 F6 F15 F25 hF0 hC1 hC2 hF3 hF4 hB4 hB5 hB6 hS hA4 hA5 hO4 hO5 J hR
  go_wp2

  exact HQ.out g4 d4 g5 d5 g6 d6 D1 D2 D3 W6 _ _ _ _ _ _ _ _ _ _ _ _ _ _ _ _ _ _ _ _ _ _ _ _ _ _ HH.out
end Go.Proofs.Ythdjpbfknbafgaa
