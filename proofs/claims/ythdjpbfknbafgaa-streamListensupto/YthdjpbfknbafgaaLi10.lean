import Derived.Test.YthdjpbfknbafgaaLi9
import Derived.Deep.LoopGhost
namespace Go.Proofs.Ythdjpbfknbafgaa
open Go.RowKit
set_option maxRecDepth 100000
set_option linter.unusedVariables false
set_option linter.unusedSimpArgs false

section
open Go.RowKit Go.Shelf
attribute [local go_sem] Oper.semAt_some

/-- the frames that were told, as they lie in memory; none of their bytes where the machine writes -/
structure FoR (W : World) (lo : Nat) (dv : Value) (v : Value) (fs : List Fa) : Prop where
  ex : ∃ (ys : List Fy) (a : Option Addr) (c : Nat), v = .slice a ys.length c ∧ W.ownsRow lo 42 4 v ys.length (flY ys) ∧ (∀ y, y ∈ ys → Ans W lo y.1.a y.1.n y.2 y.1.D ∧ ∀ x, (Value.slice y.1.a y.1.n y.2).ownBlock = some x → dv.ownBlock ≠ some x) ∧ ys.map (fun y => absF y.1) = fs
theorem FoR.frm {W W' : World} {p : Nat → Prop} {lo : Nat} {dv v : Value} {fs : List Fa} (h : FoR W lo dv v fs) (hF : Frm p W W') (hp : ∀ k, p k → k < W.heap.size → (∃ cs, W.heap[k]? = some (.cells cs 5) ∧ dv.ownBlock = some k) ∨ ∃ cs t, W.heap[k]? = some (.cells cs t) ∧ t ≠ 42 ∧ t ≠ 5) : FoR W' lo dv v fs := by
  obtain ⟨ys, a, c, e, ho, hd, hf⟩ := h.ex
  refine ⟨ys, a, c, e, row_frm ho hF (fun x hx hpx => ?_), fun y hy => ⟨(hd y hy).1.frm hF (fun x hx hpx => ?_), (hd y hy).2⟩, hf⟩
  · obtain ⟨hl, cur, hc⟩ := row_lt ho hx
    rcases hp x hpx hl with ⟨cs, h1, _⟩ | ⟨cs, t, h1, h2, _⟩
    · exact cells_ne hc h1 (by decide)
    · exact cells_ne hc h1 (fun e => h2 e.symm)
  · obtain ⟨hl, cur, hc⟩ := row_lt (hd y hy).1.own hx
    rcases hp x hpx hl with ⟨cs, _, h1⟩ | ⟨cs, t, h1, _, h2⟩
    · exact (hd y hy).2 x hx h1
    · exact cells_ne hc h1 (fun e => h2 e.symm)
theorem FoR.far {W : World} {lo : Nat} {dv dv' v : Value} {fs : List Fa} (h : FoR W lo dv v fs) (hd : ∀ x, dv'.ownBlock = some x → dv.ownBlock = some x ∨ W.heap.size ≤ x) : FoR W lo dv' v fs := by
  obtain ⟨ys, a, c, e, ho, hd', hf⟩ := h.ex
  refine ⟨ys, a, c, e, ho, fun y hy => ⟨(hd' y hy).1, fun x hx hx' => ?_⟩, hf⟩
  rcases hd x hx' with h1 | h1
  · exact (hd' y hy).2 x hx h1
  · have := (row_lt (hd' y hy).1.own hx).1; omega
theorem FoR.step {W W' : World} {p : Nat → Prop} {lo : Nat} {dv dv' v : Value} {fs : List Fa} (h : FoR W lo dv v fs) (hF : Frm p W W') (hp : ∀ k, p k → k < W.heap.size → (∃ cs, W.heap[k]? = some (.cells cs 5) ∧ dv.ownBlock = some k) ∨ ∃ cs t, W.heap[k]? = some (.cells cs t) ∧ t ≠ 42 ∧ t ≠ 5)
    (hd : ∀ x, dv'.ownBlock = some x → dv.ownBlock = some x ∨ W.heap.size ≤ x) : FoR W' lo dv' v fs := by
  obtain ⟨ys, a, c, e, ho, hd', hf⟩ := h.ex
  refine ⟨ys, a, c, e, row_frm ho hF (fun x hx hpx => ?_), fun y hy => ⟨(hd' y hy).1.frm hF (fun x hx hpx => ?_), fun x hx hx' => ?_⟩, hf⟩
  · obtain ⟨hl, cur, hc⟩ := row_lt ho hx
    rcases hp x hpx hl with ⟨cs, h1, _⟩ | ⟨cs, t, h1, h2, _⟩
    · exact cells_ne hc h1 (by decide)
    · exact cells_ne hc h1 (fun e => h2 e.symm)
  · obtain ⟨hl, cur, hc⟩ := row_lt (hd' y hy).1.own hx
    rcases hp x hpx hl with ⟨cs, _, h1⟩ | ⟨cs, t, h1, _, h2⟩
    · exact (hd' y hy).2 x hx h1
    · exact cells_ne hc h1 (fun e => h2 e.symm)
  · rcases hd x hx' with h1 | h1
    · exact (hd' y hy).2 x hx h1
    · have := (row_lt (hd' y hy).1.own hx).1; omega
theorem FoR.low {W : World} {lo lo' : Nat} {dv v : Value} {fs : List Fa} (h : FoR W lo dv v fs) (hl : lo' ≤ lo) : FoR W lo' dv v fs := by
  obtain ⟨ys, a, c, e, ho, hd, hf⟩ := h.ex
  refine ⟨ys, a, c, e, ⟨ho.1, ?_⟩, fun y hy => ⟨(hd y hy).1.wide hl, (hd y hy).2⟩, hf⟩
  rcases ho.2 with h2 | ⟨g, cap, cur, h3, h4, h5⟩
  · exact .inl h2
  · exact .inr ⟨g, cap, cur, h3, Nat.le_trans hl h4, h5⟩
/-- so many of them, one for each piece -/
def OnR (W : World) (lo : Nat) (dv : Value) (V : List Value) (Ts : List (List Fa)) : Prop := V.length = Ts.length ∧ ∀ (i : Nat) v fs, V[i]? = some v → Ts[i]? = some fs → FoR W lo dv v fs
theorem OnR.frm {W W' : World} {p : Nat → Prop} {lo : Nat} {dv : Value} {V : List Value} {Ts : List (List Fa)} (h : OnR W lo dv V Ts) (hF : Frm p W W') (hp : ∀ k, p k → k < W.heap.size → (∃ cs, W.heap[k]? = some (.cells cs 5) ∧ dv.ownBlock = some k) ∨ ∃ cs t, W.heap[k]? = some (.cells cs t) ∧ t ≠ 42 ∧ t ≠ 5) : OnR W' lo dv V Ts :=
  ⟨h.1, fun i v fs h1 h2 => (h.2 i v fs h1 h2).frm hF hp⟩
theorem OnR.far {W : World} {lo : Nat} {dv dv' : Value} {V : List Value} {Ts : List (List Fa)} (h : OnR W lo dv V Ts) (hd : ∀ x, dv'.ownBlock = some x → dv.ownBlock = some x ∨ W.heap.size ≤ x) : OnR W lo dv' V Ts := ⟨h.1, fun i v fs h1 h2 => (h.2 i v fs h1 h2).far hd⟩
theorem OnR.step {W W' : World} {p : Nat → Prop} {lo : Nat} {dv dv' : Value} {V : List Value} {Ts : List (List Fa)} (h : OnR W lo dv V Ts) (hF : Frm p W W') (hp : ∀ k, p k → k < W.heap.size → (∃ cs, W.heap[k]? = some (.cells cs 5) ∧ dv.ownBlock = some k) ∨ ∃ cs t, W.heap[k]? = some (.cells cs t) ∧ t ≠ 42 ∧ t ≠ 5)
    (hd : ∀ x, dv'.ownBlock = some x → dv.ownBlock = some x ∨ W.heap.size ≤ x) : OnR W' lo dv' V Ts := ⟨h.1, fun i v fs h1 h2 => (h.2 i v fs h1 h2).step hF hp hd⟩
theorem OnR.add {W : World} {lo : Nat} {dv v : Value} {V : List Value} {fs : List Fa} {Ts : List (List Fa)} (h : OnR W lo dv V Ts) (hv : FoR W lo dv v fs) : OnR W lo dv (V ++ [v]) (Ts ++ [fs]) := by
  refine ⟨by rw [List.length_append, List.length_append, h.1]; rfl, fun i v' fs' h1 h2 => ?_⟩
  by_cases hi : i < V.length
  · rw [List.getElem?_append_left hi] at h1
    rw [List.getElem?_append_left (by rw [← h.1]; exact hi)] at h2
    exact h.2 i v' fs' h1 h2
  · rw [List.getElem?_append_right (by omega)] at h1
    rw [List.getElem?_append_right (by rw [← h.1]; omega)] at h2
    have hl : i - V.length < 1 := (List.getElem?_eq_some_iff.1 h1).1
    have e : i - V.length = 0 := by omega
    rw [e] at h1
    rw [← h.1, e] at h2
    cases h1
    cases h2
    exact hv
theorem OnR.nil (W : World) (lo : Nat) (dv : Value) : OnR W lo dv [] [] := ⟨rfl, fun i v fs h _ => by cases h⟩
/-- between two pieces -/
structure LsI (w0 : World) (g : Nat) (r : Rx) (s : Mx) (n : Nat) (Ts : List (List Fa)) (Bs : List Bool) (a4 a5 a6 : Option Addr) (c4 c5 c6 : Nat) (Ds : List Nat) (W : World) : Prop where
  sy : ∃ dv V4 V5, SyM W g r s dv ∧ (∀ x, dv.ownBlock = some x → w0.heap.size ≤ x) ∧ AnsX 33 W w0.heap.size a4 n c4 V4 ∧ OnR W w0.heap.size dv V4 Ts ∧ AnsX 33 W w0.heap.size a5 n c5 V5 ∧ OnR W w0.heap.size dv V5 Ts
  inv : Inv r s
  hg : w0.heap.size ≤ g
  ap : ∀ x, (Value.slice a4 n c4).ownBlock = some x → (Value.slice a5 n c5).ownBlock ≠ some x
  lk : AnsX 4 W w0.heap.size a6 n c6 (Bs.map Value.bool)
  fr : Frm (fun _ => False) w0 W
  nd : Ds.Nodup
  de : ∀ D, D ∈ Ds → W.heap[D]? = some (.deferred (some []))
  dg : ∀ D, D ∈ Ds → w0.heap.size ≤ D
theorem de_frm {p : Nat → Prop} {W W' : World} {Ds : List Nat} (h : ∀ D, D ∈ Ds → W.heap[D]? = some (.deferred (some []))) (hF : Frm p W W') (hp : ∀ k, p k → k < W.heap.size → ∃ cs t, W.heap[k]? = some (.cells cs t)) : ∀ D, D ∈ Ds → W'.heap[D]? = some (.deferred (some [])) := fun D hD => by
  have hl := (Array.getElem?_eq_some_iff.1 (h D hD)).1
  refine (hF.block D hl (fun hpD => ?_)).trans (h D hD)
  obtain ⟨cs, t, e⟩ := hp D hpD hl
  rw [h D hD] at e
  cases e
/-- what a range has collected, as it is told -/
theorem CoI.told {w W : World} {bA : Nat} {ys : List Fy} {fs : List Fv} {T : List Fa} {dv : Value} (h : CoI w bA ys W) (hys : ys.map (fun y => absF y.1) = fs.map absF) (hab : fs.map absF = T) (hd : ∀ x, dv.ownBlock = some x → x < w.heap.size) : ∃ a n c, Boxed W bA 33 (.slice a n c) ∧ FoR W w.heap.size dv (.slice a n c) T := by
  obtain ⟨v, hb, ho⟩ := h.box
  obtain ⟨a, c, rfl⟩ : ∃ a c, v = .slice a ys.length c := by
    rcases ho.2 with ⟨rfl, e⟩ | ⟨g, cap, cur, rfl, _⟩
    · rw [e]; exact ⟨_, _, rfl⟩
    · exact ⟨_, _, rfl⟩
  refine ⟨a, _, c, hb, ys, a, c, rfl, ho, fun y hy => ⟨h.dat y hy, fun x hx hx' => ?_⟩, hys.trans hab⟩
  have h1 := hd x hx'
  have h2 := (h.dat y hy).new x hx
  omega
theorem SyM.dlt {w : World} {g : Nat} {r : Rx} {s : Mx} {dv : Value} (hS : SyM w g r s dv) : ∀ x, dv.ownBlock = some x → x < w.heap.size := fun x hx => by
  by_cases hm : s.mode = 1
  · obtain ⟨gd, e, _, ho, _⟩ := hS.busy hm
    exact (row_lt ho hx).1
  · rw [(hS.idle hm).1] at hx; cases hx
theorem SyM.cellsT {w : World} {g : Nat} {r : Rx} {s : Mx} {dv : Value} (h : SyM w g r s dv) : ∀ k, (k = g ∨ some k = dv.ownBlock) → k < w.heap.size → (∃ cs, w.heap[k]? = some (.cells cs 5) ∧ dv.ownBlock = some k) ∨ ∃ cs, w.heap[k]? = some (.cells cs 65) := by
  rintro k (rfl | hk) _
  · exact .inr ⟨_, h.blk⟩
  · by_cases hm : s.mode = 1
    · obtain ⟨gd, e, _, ho, _⟩ := h.busy hm
      obtain ⟨_, cs, hc⟩ := row_lt ho hk.symm
      exact .inl ⟨cs, hc, hk.symm⟩
    · rw [(h.idle hm).1] at hk; cases hk
end

section
open Go.RowKit Go.Shelf
attribute [local go_sem] Oper.semAt_some

theorem Rd.keepF {w w' : World} {p : Nat → Prop} {a : Option Addr} {n c : Nat} {L : List Nat} (h : Rd w a n c L) (hF : Frm (fun _ => False) w w') : Rd w' a n c L := h.keep ⟨hF.os, hF.tape, hF.output, hF.size, fun k hk _ => hF.block k hk (fun h => h)⟩
set_option maxHeartbeats 16000000 in
theorem li_8 {u0 u1 u2 u3 u7 u9 u10 u11 u12 u13 u14 u15 u16 u17 u18 u19 u20 u21 u22 u23 u24 u25 u26 u27 u29 u31 u32 u33 u34 u35 u36 u37 u38 u39 u40 u41 u42 u43 u44 u45 u46 u47 u48 u49 u50 u51 u52 u53 u54 u55 u56 u57 u58 u59 u60 u61 u62 u63 u64 u65 u66 u67 : Value} {Q : Exit → Act → World → Prop} (w0 w : World) (g i np cp po bp : Nat) (a4 a5 a6 : Option Addr) (c4 c5 c6 : Nat) (r : Rx) (s : Mx) (Ts : List (List Fa)) (Bs : List Bool) (Ds : List Nat) (a : Option Addr) (m cap : Nat) (B : List Nat)
    (J : LsI w0 g r s i Ts Bs a4 a5 a6 c4 c5 c6 Ds w) (hi : i < np) (hnp : np ≤ 4000000000000) (cI : w.cell? ⟨bp, po + i, none⟩ = some (.slice a m cap)) (hR : Rd w0 a m cap B) (hm : m ≤ 4194304) (htk : s.tk + m ≤ 4611686018427387904) (hL1 : 1 ≤ r.L) (hL : r.L ≤ 2048) (hF : r.F ≤ 64) (hM : r.M ≤ 64)
    (hQ : ∀ g4 d4 g5 d5 g6 d6 D1 D2 D3 W z11 z12 z13 z14 z32 z33 z34 z35 z36 z37 z43 z45 z51 z52 z53 z54 z55 z56 z57 z58 z59 z60 z61 z62 z63 z64, LsI w0 g r (tkX r s B m).1 (i + 1) (Ts ++ [(tkX r s B m).2]) (Bs ++ [(tkX r s B m).1.mode != 0]) (some ⟨g4, 0, none⟩) (some ⟨g5, 0, none⟩) (some ⟨g6, 0, none⟩) d4 d5 d6 (D3 :: D2 :: D1 :: Ds) W → Q .normal (Act.mk (List.toArray (u0 :: u1 :: u2 :: u3 :: (.slice (some ⟨g4, 0, none⟩) (i + 1) d4) :: (.slice (some ⟨g5, 0, none⟩) (i + 1) d5) :: (.slice (some ⟨g6, 0, none⟩) (i + 1) d6) :: u7 :: (.pointer (some ⟨g, 0, none⟩)) :: u9 :: u10 :: z11 :: z12 :: z13 :: z14 :: u15 :: u16 :: u17 :: u18 :: u19 :: u20 :: u21 :: u22 :: u23 :: u24 :: u25 :: u26 :: u27 :: (.slice (some ⟨bp, po, none⟩) np cp) :: u29 :: (.int .i64 ((i + 1 : Nat) : Int)) :: u31 :: z32 :: z33 :: z34 :: z35 :: z36 :: z37 :: u38 :: u39 :: u40 :: u41 :: u42 :: z43 :: u44 :: z45 :: u46 :: u47 :: u48 :: u49 :: u50 :: z51 :: z52 :: z53 :: z54 :: z55 :: z56 :: z57 :: z58 :: z59 :: z60 :: z61 :: z62 :: z63 :: z64 :: u65 :: u66 :: u67 :: [])) (mark D3 :: mark D2 :: mark D1 :: Ds.map mark)) W) :
    Code.wp Try.prog (tailR 8 (Try.f8.body.getD .skip)) Q (Act.mk (List.toArray (u0 :: u1 :: u2 :: u3 :: (.slice a4 i c4) :: (.slice a5 i c5) :: (.slice a6 i c6) :: u7 :: (.pointer (some ⟨g, 0, none⟩)) :: u9 :: u10 :: u11 :: u12 :: u13 :: u14 :: u15 :: u16 :: u17 :: u18 :: u19 :: u20 :: u21 :: u22 :: u23 :: u24 :: u25 :: u26 :: u27 :: (.slice (some ⟨bp, po, none⟩) np cp) :: u29 :: (.int .i64 (i : Nat)) :: u31 :: u32 :: u33 :: u34 :: u35 :: u36 :: u37 :: u38 :: u39 :: u40 :: u41 :: u42 :: u43 :: u44 :: u45 :: u46 :: u47 :: u48 :: u49 :: u50 :: u51 :: u52 :: u53 :: u54 :: u55 :: u56 :: u57 :: u58 :: u59 :: u60 :: u61 :: u62 :: u63 :: u64 :: u65 :: u66 :: u67 :: [])) (Ds.map mark)) w := by
  conv => enter [2]; whnf
  have HQ : Hid _ := hQ
  clear hQ
  obtain ⟨dv, V4, V5, hS, hdv, hA4, hO4, hA5, hO5⟩ := J.sy
  have hRw := Rd.keepF (p := fun _ => False) hR J.fr
  have hsep : 0 < m → ∀ b off, a = some ⟨b, off, none⟩ → b ≠ g ∧ some b ≠ dv.ownBlock := fun h0 b off e => by
    obtain ⟨b', off', e', hb', _⟩ := hR.at' h0
    rw [e] at e'
    cases e'
    have := J.hg
    refine ⟨by omega, fun e2 => ?_⟩
    have := hdv b e2.symm
    omega
  have hii : (i : Int) < (np : Int) := by omega
  refine wp_seq_k fun K0 hK0 => ?_
  have HK0 : Hid _ := hK0
  clear hK0
  refine wp_block ?_
  refine wp_seq_k fun K8 hK8 => ?_
  have HK8 : Hid _ := hK8
  clear hK8
  go_wp2
  refine HK8.out _ _ ?_
  clear HK8
  refine wp_seq_k fun K9 hK9 => ?_
  have HK9 : Hid _ := hK9
  clear hK9
  go_wp2_with (go_at_call 17; refine (take_any g r s dv a m cap B w hS J.inv hRw hsep hm htk hL1 hL hF hM).mono ?_; rintro e w1 ⟨rfl, dv', v', fs', hS1, hF1, hab, hdv1, hv1, F1⟩)
  refine HK9.out _ _ ?_
  clear HK9
  refine wp_seq_k fun K10 hK10 => ?_
  have HK10 : Hid _ := hK10
  clear hK10
  go_wp2
  refine HK10.out _ _ ?_
  clear HK10
  have bA0 := (Boxed.new w1 33 (.slice none 0 0)).alloc (.cells #[.slice none 0 0] 33)
  have bB0 := Boxed.new (w1.alloc (.cells #[.slice none 0 0] 33)) 33 (.slice none 0 0)
  have F2 : Frm (fun _ => False) w1 ((w1.alloc (.cells #[.slice none 0 0] 33)).alloc (.cells #[.slice none 0 0] 33)) := (Frm.of (p := fun _ => False) (World.grownBy_alloc w1 _ none) (fun k e _ => by cases e)).trans (Frm.of (p := fun _ => False) (World.grownBy_alloc _ _ none) (fun k e _ => by cases e)) (fun _ _ h => h)
  have hz2 : w1.heap.size + 2 ≤ ((w1.alloc (.cells #[.slice none 0 0] 33)).alloc (.cells #[.slice none 0 0] 33)).heap.size := by simp
  obtain ⟨bA, hbA⟩ : ∃ bA, bA = w1.heap.size := ⟨_, rfl⟩
  obtain ⟨bB, hbB⟩ : ∃ bB, bB = (w1.alloc (.cells #[.slice none 0 0] 33)).heap.size := ⟨_, rfl⟩
  have hbB' : bB = w1.heap.size + 1 := by rw [hbB]; simp
  rw [← hbA] at bA0
  rw [← hbB] at bB0
  rw [← hbB', ← hbA]
  rw [← hbA] at hz2
  have hfb : w.heap.size < w1.heap.size := hF1.box.lt
  have hlt1 := hF1.lt
  have hgw : g < w.heap.size := hS.blk.lt
  have hzw := F1.size
  have hn : ∀ f, f ∈ fs' → 0 < f.n ∧ f.n ≤ 2048 := fun f hf => by
    have h1 : f.D.length = r.L := tkX_D r s B m (absF f) (by rw [← hab]; exact List.mem_map_of_mem hf)
    have h2 := (hF1.ok f hf).1.len
    omega
  have hlen : fs'.length ≤ 4194304 := by
    have h1 := tkX_len r s B m
    rw [← hab, List.length_map] at h1
    omega
  have hd1 : ∀ x, dv'.ownBlock = some x → x < bA := fun x hx => by rw [hbA]; exact hS1.dlt x hx
  have hF2 : FdB ((w1.alloc (.cells #[.slice none 0 0] 33)).alloc (.cells #[.slice none 0 0] 33)) w.heap.size v' dv' fs' := hF1.frm F2 (fun h => h) (fun _ _ h => h) (fun _ _ _ _ h => h) (fun x hx => .inl hx)
  have hS2 := hS1.frm F2 (fun h => h) (fun _ _ h => h)
  have cT := hS.cellsT
  have hO41 : OnR w1 w0.heap.size dv' V4 Ts := hO4.step F1 (fun k hk hl => by
    rcases cT k hk hl with h | ⟨cs, h⟩
    · exact .inl h
    · exact .inr ⟨cs, _, h, by decide, by decide⟩) hdv1
  have hO51 : OnR w1 w0.heap.size dv' V5 Ts := hO5.step F1 (fun k hk hl => by
    rcases cT k hk hl with h | ⟨cs, h⟩
    · exact .inl h
    · exact .inr ⟨cs, _, h, by decide, by decide⟩) hdv1
  have noT : ∀ {e : TypeId} {ao : Option Addr} {no co : Nat} {X : List Value}, AnsX e w w0.heap.size ao no co X → e ≠ 5 → e ≠ 65 → ∀ x, (Value.slice ao no co).ownBlock = some x → ¬ (x = g ∨ some x = dv.ownBlock) := fun hA n1 n2 x hx hp => by
    obtain ⟨hl, cur, hc⟩ := row_lt hA.own hx
    rcases cT x hp hl with ⟨cs, h, _⟩ | ⟨cs, h⟩
    · exact cells_ne hc h n1
    · exact cells_ne hc h n2
  have no4 := noT hA4 (by decide) (by decide)
  have no5 := noT hA5 (by decide) (by decide)
  have no6 := noT J.lk (by decide) (by decide)
  have hA41 := hA4.frm F1 no4
  have hA51 := hA5.frm F1 no5
  have hA61 := J.lk.frm F1 no6
  have l4 : ∀ x, (Value.slice a4 i c4).ownBlock = some x → x < w.heap.size := fun x hx => (row_lt hA4.own hx).1
  have l5 : ∀ x, (Value.slice a5 i c5).ownBlock = some x → x < w.heap.size := fun x hx => (row_lt hA5.own hx).1
  have l6 : ∀ x, (Value.slice a6 i c6).ownBlock = some x → x < w.heap.size := fun x hx => (row_lt J.lk.own hx).1
  have b46 : ∀ x, (Value.slice a4 i c4).ownBlock = some x → (Value.slice a6 i c6).ownBlock ≠ some x := fun x hx hy => cells_ne' hA4 J.lk hx hy
  have b56 : ∀ x, (Value.slice a5 i c5).ownBlock = some x → (Value.slice a6 i c6).ownBlock ≠ some x := fun x hx hy => cells_ne' hA5 J.lk hx hy
  have dne : ∀ x, x < w.heap.size → ¬ (x = g ∨ some x = dv.ownBlock) → dv'.ownBlock ≠ some x := fun x hl hp hx => by
    rcases hdv1 x hx with h | h
    · exact hp (.inr h.symm)
    · omega
  have de1 := de_frm J.de F1 (fun k hk hl => by
    rcases cT k hk hl with ⟨cs, h, _⟩ | ⟨cs, h⟩
    · exact ⟨cs, _, h⟩
    · exact ⟨cs, _, h⟩)
  have dl1 : ∀ D, D ∈ Ds → D < w.heap.size := fun D hD => (Array.getElem?_eq_some_iff.1 (J.de D hD)).1
  have de2 := de_frm de1 F2 (fun k hk _ => hk.elim)
  have HS1 : Hid _ := hS1
  clear hS1 hF1 hRw hsep hbB
  generalize ((w1.alloc (.cells #[.slice none 0 0] 33)).alloc (.cells #[.slice none 0 0] 33)) = W2 at *
  refine wp_seq_k fun K11 hK11 => ?_
  have HK11 : Hid _ := hK11
  clear hK11
  refine li_11 W2 hF2 hn hlen bA0 (fun hk => by have := hlt1 _ hk; omega) ?_
  intro D1 ys W3 hD1 hys hC1 he1
  simp only [Exit.then]
  refine HK11.out _ _ ?_
  clear HK11
  have F3 := hC1.frm
  have hl3 : D1 < W3.heap.size := (Array.getElem?_eq_some_iff.1 he1).1
  have hz3 := F3.size
  have nb : ∀ k, FdP w.heap.size v' fs' k → k ≠ bA := fun k hk => by have := hlt1 k hk; omega
  have hF3 : FdB W3 w.heap.size v' dv' fs' := hF2.frm F3 (nb _ (.inl rfl)) (fun x hx => nb x (.inr (.inl hx.symm))) (fun f hf x hx => nb x (.inr (.inr ⟨f, hf, hx.symm⟩))) (fun x hx => .inl hx)
  obtain ⟨p1, n1, q1, bx1, hR1⟩ := hC1.told hys hab (dv := dv') (fun x hx => by have := hd1 x hx; omega)
  have bB3 := box_frm bB0 F3 (by omega)
  have de3 : ∀ D, D ∈ D1 :: Ds → W3.heap[D]? = some (.deferred (some [])) := fun D hD => by
    rcases List.mem_cons.1 hD with rfl | hD
    · exact he1
    · exact de_frm de2 F3 (fun k hk _ => by rw [hk]; exact ⟨_, _, bA0⟩) D hD
  refine wp_seq_k fun K14 hK14 => ?_
  have HK14 : Hid _ := hK14
  clear hK14
  refine li_14 W3 hF3 hn hlen ?_
  intro D2 W4 hD2 F4 he2
  simp only [Exit.then]
  refine HK14.out _ _ ?_
  clear HK14
  have hl4 : D2 < W4.heap.size := (Array.getElem?_eq_some_iff.1 he2).1
  have hz4 := F4.size
  have hF4 : FdB W4 w.heap.size v' dv' fs' := hF3.frm F4 (fun h => h) (fun _ _ h => h) (fun _ _ _ _ h => h) (fun x hx => .inl hx)
  have bB4 := box_frm bB3 F4 (fun h => h)
  have bx4 := box_frm bx1 F4 (fun h => h)
  have de4 : ∀ D, D ∈ D2 :: D1 :: Ds → W4.heap[D]? = some (.deferred (some [])) := fun D hD => by
    rcases List.mem_cons.1 hD with rfl | hD
    · exact he2
    · exact de_frm de3 F4 (fun k hk _ => hk.elim) D hD
  refine wp_seq_k fun K15 hK15 => ?_
  have HK15 : Hid _ := hK15
  clear hK15
  refine li_15 W4 hF4 hn hlen bB4 (fun hk => by have := hlt1 _ hk; omega) ?_
  intro D3 ys' W5 hD3 hys' hC2 he3
  simp only [Exit.then]
  refine HK15.out _ _ ?_
  clear HK15
  have F5 := hC2.frm
  have hl5 : D3 < W5.heap.size := (Array.getElem?_eq_some_iff.1 he3).1
  have hz5 := F5.size
  obtain ⟨p2, n2, q2, bx2, hR2⟩ := hC2.told hys' hab (dv := dv') (fun x hx => by have := hd1 x hx; omega)
  have bx5 := box_frm bx4 F5 (by omega)
  have de5 : ∀ D, D ∈ D3 :: D2 :: D1 :: Ds → W5.heap[D]? = some (.deferred (some [])) := fun D hD => by
    rcases List.mem_cons.1 hD with rfl | hD
    · exact he3
    · exact de_frm de4 F5 (fun k hk _ => by rw [hk]; exact ⟨_, _, bB4⟩) D hD
  have F25 : Frm (fun k => k = bA ∨ k = bB) W2 W5 := ((F3.weak (fun _ _ h => .inl h)).trans F4 (fun _ _ h => h.elim)).trans F5 (fun _ _ h => .inr h)
  have F15 : Frm (fun _ => False) w1 W5 := F2.trans F25 (fun k hk h => by omega)
  have hR15 := (hR1.frm F4 (fun k hk _ => hk.elim)).frm F5 (fun k hk _ => by rw [hk]; exact .inr ⟨_, _, bB4, by decide, by decide⟩)
  have hS5 := HS1.out.frm F15 (fun h => h) (fun _ _ h => h)
  have hO45 := hO41.frm F15 (fun k hk _ => hk.elim)
  have hO55 := hO51.frm F15 (fun k hk _ => hk.elim)
  have hA45 := hA41.frm F15 (fun _ _ h => h)
  have hA55 := hA51.frm F15 (fun _ _ h => h)
  have hA65 := hA61.frm F15 (fun _ _ h => h)
  have hF0 := J.fr
  have hz0 := hF0.size
  have hw0g := J.hg
  refine wp_mono (Q := fun e a' w' => e = .normal ∧ K0 a' w') (li_18 W5 w0.heap.size i g bA bB a4 a5 a6 p1 p2 c4 c5 c6 n1 q1 n2 q2 V4 V5 (Bs.map Value.bool) r (tkX r s B m).1 dv' bx5.cell bx2.cell hA45 hA55 hA65 (by omega) (by omega) hS5
    (fun x hx => ⟨by have := l4 x hx; omega, by have := l4 x hx; omega, fun e => no4 x hx (.inl e), dne x (l4 x hx) (no4 x hx), J.ap x hx, b46 x hx⟩)
    (fun x hx => ⟨by have := l5 x hx; omega, by have := l5 x hx; omega, fun e => no5 x hx (.inl e), dne x (l5 x hx) (no5 x hx), b56 x hx⟩)
    (fun h => by have := l6 _ h; omega) (fun h => by have := l6 _ h; omega) (fun c a a' w _ h => by cases h.1) ?_) (fun e a' w' h => by obtain ⟨rfl, h⟩ := h; exact h)
  intro g4 d4 g5 d5 g6 d6 W6 z51 z52 z53 z54 z55 z56 z57 z58 z59 z60 z61 z62 z63 hB4 hB5 hB6 h45 F6
  refine ⟨rfl, ?_⟩
  refine HK0.out _ _ ?_
  clear HK0
  have HJ : LsI w0 g r (tkX r s B m).1 (i + 1) (Ts ++ [(tkX r s B m).2]) (Bs ++ [(tkX r s B m).1.mode != 0]) (some ⟨g4, 0, none⟩) (some ⟨g5, 0, none⟩) (some ⟨g6, 0, none⟩) d4 d5 d6 (D3 :: D2 :: D1 :: Ds) W6 := by
    have hc4 : ∀ k, (Value.slice a4 i c4).ownBlock = some k → ∃ cs, W5.heap[k]? = some (.cells cs 33) := fun k hk => (row_lt hA45.own hk).2
    have hc5 : ∀ k, (Value.slice a5 i c5).ownBlock = some k → ∃ cs, W5.heap[k]? = some (.cells cs 33) := fun k hk => (row_lt hA55.own hk).2
    have hc6 : ∀ k, (Value.slice a6 i c6).ownBlock = some k → ∃ cs, W5.heap[k]? = some (.cells cs 4) := fun k hk => (row_lt hA65.own hk).2
    have hp6 : ∀ k, ((Value.slice a4 i c4).ownBlock = some k ∨ (Value.slice a5 i c5).ownBlock = some k ∨ (Value.slice a6 i c6).ownBlock = some k) → k < W5.heap.size → (∃ cs, W5.heap[k]? = some (.cells cs 5) ∧ dv'.ownBlock = some k) ∨ ∃ cs t, W5.heap[k]? = some (.cells cs t) ∧ t ≠ 42 ∧ t ≠ 5 := fun k hk _ => by
      rcases hk with h | h | h
      · obtain ⟨cs, e⟩ := hc4 k h; exact .inr ⟨cs, _, e, by decide, by decide⟩
      · obtain ⟨cs, e⟩ := hc5 k h; exact .inr ⟨cs, _, e, by decide, by decide⟩
      · obtain ⟨cs, e⟩ := hc6 k h; exact .inr ⟨cs, _, e, by decide, by decide⟩
    have hlow : w0.heap.size ≤ W2.heap.size := by omega
    refine ⟨⟨dv', _, _, hS5.frm F6 ?_ ?_, ?_, hB4, (hO45.frm F6 hp6).add ((hR15.low hlow).frm F6 hp6), hB5, (hO55.frm F6 hp6).add ((hR2.low (by omega)).frm F6 hp6)⟩, tkX_inv hL1 J.inv B m, hw0g, ?_, ?_, ?_, ?_, ?_, ?_⟩
    · rintro (h | h | h)
      · exact no4 g h (.inl rfl)
      · exact no5 g h (.inl rfl)
      · exact no6 g h (.inl rfl)
    · rintro x hx (h | h | h)
      · exact dne x (l4 x h) (no4 x h) hx
      · exact dne x (l5 x h) (no5 x h) hx
      · exact dne x (l6 x h) (no6 x h) hx
    · intro x hx
      rcases hdv1 x hx with h | h
      · exact hdv x h
      · omega
    · intro x hx hy
      have e1 : g4 = x := Option.some.inj hx
      have e2 : g5 = x := Option.some.inj hy
      exact h45 (e1.trans e2.symm)
    · rw [List.map_append]; exact hB6
    · refine ((hF0.trans F1 (fun k hk h => ?_)).trans F15 (fun _ _ h => h)).trans F6 (fun k hk h => ?_)
      · rcases h with h | h
        · omega
        · have := hdv k h.symm; omega
      · rcases h with h | h | h
        · have := hA4.new k h; omega
        · have := hA5.new k h; omega
        · have := J.lk.new k h; omega
    · refine List.nodup_cons.2 ⟨fun h => ?_, List.nodup_cons.2 ⟨fun h => ?_, List.nodup_cons.2 ⟨fun h => ?_, J.nd⟩⟩⟩
      · rcases List.mem_cons.1 h with h | h
        · omega
        · rcases List.mem_cons.1 h with h | h
          · omega
          · have := dl1 _ h; omega
      · rcases List.mem_cons.1 h with h | h
        · omega
        · have := dl1 _ h; omega
      · have := dl1 _ h; omega
    · refine de_frm de5 F6 (fun k hk _ => ?_)
      rcases hk with h | h | h
      · obtain ⟨cs, e⟩ := hc4 k h; exact ⟨cs, _, e⟩
      · obtain ⟨cs, e⟩ := hc5 k h; exact ⟨cs, _, e⟩
      · obtain ⟨cs, e⟩ := hc6 k h; exact ⟨cs, _, e⟩
    · intro D hD
      rcases List.mem_cons.1 hD with h | hD
      · omega
      · rcases List.mem_cons.1 hD with h | hD
        · omega
        · rcases List.mem_cons.1 hD with h | hD
          · omega
          · exact J.dg D hD
  have HH : Hid _ := HJ
  clear HJ hF2 hS2 hO41 hO51 hA41 hA51 hA61 hO45 hO55 hA45 hA55 hA65 hR1 hR2 hR15 hS5 F1 F2 F3 F4 F5 F6 F15 F25 hF0 hC1 hC2 hF3 hF4 hB4 hB5 hB6 hS hA4 hA5 hO4 hO5 J hR
  go_wp2

  exact HQ.out g4 d4 g5 d5 g6 d6 D1 D2 D3 W6 _ _ _ _ _ _ _ _ _ _ _ _ _ _ _ _ _ _ _ _ _ _ _ _ _ _ HH.out
end

section
open Go.RowKit Go.Shelf
attribute [local go_sem] Oper.semAt_some

/-- the machine behind so many pieces; what each told; was a mark expected behind it -/
def mxX (r : Rx) (s : Mx) : List (List Nat) → Mx
  | [] => s
  | B :: Ps => mxX r (tkX r s B B.length).1 Ps
def toX (r : Rx) (s : Mx) : List (List Nat) → List (List Fa)
  | [] => []
  | B :: Ps => (tkX r s B B.length).2 :: toX r (tkX r s B B.length).1 Ps
def loX (r : Rx) (s : Mx) : List (List Nat) → List Bool
  | [] => []
  | B :: Ps => ((tkX r s B B.length).1.mode != 0) :: loX r (tkX r s B B.length).1 Ps
def sumX : List (List Nat) → Nat
  | [] => 0
  | B :: Ps => B.length + sumX Ps
theorem mxX_add (r : Rx) (B : List Nat) : ∀ (Ps : List (List Nat)) (s : Mx), mxX r s (Ps ++ [B]) = (tkX r (mxX r s Ps) B B.length).1
  | [], _ => rfl
  | A :: Ps, s => mxX_add r B Ps _
theorem toX_add (r : Rx) (B : List Nat) : ∀ (Ps : List (List Nat)) (s : Mx), toX r s (Ps ++ [B]) = toX r s Ps ++ [(tkX r (mxX r s Ps) B B.length).2]
  | [], _ => rfl
  | A :: Ps, s => by
    show _ :: toX r _ (Ps ++ [B]) = _
    rw [toX_add r B Ps]; rfl
theorem loX_add (r : Rx) (B : List Nat) : ∀ (Ps : List (List Nat)) (s : Mx), loX r s (Ps ++ [B]) = loX r s Ps ++ [(tkX r (mxX r s Ps) B B.length).1.mode != 0]
  | [], _ => rfl
  | A :: Ps, s => by
    show _ :: loX r _ (Ps ++ [B]) = _
    rw [loX_add r B Ps]; rfl
theorem mxX_tk (r : Rx) : ∀ (Ps : List (List Nat)) (s : Mx), (mxX r s Ps).tk = s.tk + sumX Ps
  | [], _ => rfl
  | A :: Ps, s => by
    show (mxX r _ Ps).tk = _
    rw [mxX_tk r Ps, tkX_tk]
    show _ = _ + (A.length + sumX Ps)
    omega
theorem sumX_take (B : List Nat) : ∀ (Ps : List (List Nat)) (i : Nat), Ps[i]? = some B → sumX (Ps.take i) + B.length ≤ sumX Ps
  | [], i, h => by cases h
  | A :: Ps, 0, h => by
    have e : A = B := Option.some.inj h
    subst e
    show 0 + A.length ≤ A.length + _
    omega
  | A :: Ps, i + 1, h => by
    have := sumX_take B Ps i h
    show A.length + sumX (Ps.take i) + B.length ≤ A.length + sumX Ps
    omega
/-- pieces as they are read -/
structure RdPs (w : World) (ap : Option Addr) (np cp : Nat) (Ps : List (List Nat)) : Prop where
  len : Ps.length = np
  at' : 0 < np → ∃ bp po, ap = some ⟨bp, po, none⟩ ∧ ∀ i B, Ps[i]? = some B → ∃ a m c, w.cell? ⟨bp, po + i, none⟩ = some (.slice a m c) ∧ Rd w a m c B
theorem RdPs.keepF {w w' : World} {ap : Option Addr} {np cp : Nat} {Ps : List (List Nat)} (h : RdPs w ap np cp Ps) (hF : Frm (fun _ => False) w w') : RdPs w' ap np cp Ps :=
  ⟨h.len, fun h0 => by
    obtain ⟨bp, po, e, hc⟩ := h.at' h0
    refine ⟨bp, po, e, fun i B hB => ?_⟩
    obtain ⟨a, m, c, h1, h2⟩ := hc i B hB
    exact ⟨a, m, c, cell_frm h1 hF (fun h => h), Rd.keepF (p := fun _ => False) h2 hF⟩⟩
/-- what marks leave as it is: all but those blocks -/
structure ShutD (Ds : List Nat) (w w' : World) : Prop where
  os : w'.os = w.os
  tape : w'.tape = w.tape
  output : w'.output = w.output
  size : w'.heap.size = w.heap.size
  other : ∀ k : Nat, k ∉ Ds → w'.heap[k]? = w.heap[k]?
theorem leaves_marksD {F : Fence} {n : Nat} {P : Program} {fn : Func} {tmps : Array Value} {R : Ending → World → Prop} (Ds : List Nat) : ∀ w : World, Ds.Nodup → (∀ D, D ∈ Ds → w.heap[D]? = some (.deferred (some []))) →
    (∀ w', ShutD Ds w w' → LeavesIn F n P fn tmps R [] .returning w') → LeavesInM F n P fn tmps R (Ds.map mark) .returning w := by
  induction Ds with
  | nil => intro w _ _ h; exact h w ⟨rfl, rfl, rfl, rfl, fun _ _ => rfl⟩
  | cons D Ds ih =>
    intro w hnd hD h
    have hD0 := hD D (List.mem_cons_self ..)
    obtain ⟨hn1, hn2⟩ := List.nodup_cons.1 hnd
    refine ⟨by simp, .inl ⟨D, _, rfl, run_takeDeferred hD0, ?_⟩⟩
    refine ih _ hn2 (fun E hE => ?_) (fun w' hs => h w' ?_)
    · rw [World.putObj_heap_other (fun e => hn1 (by rw [← e]; exact hE))]
      exact hD E (List.mem_cons_of_mem _ hE)
    · refine ⟨hs.os, hs.tape, hs.output, hs.size.trans (by simp [World.putObj]), fun k hk => ?_⟩
      have e : k ≠ D := fun e => hk (by rw [e]; exact List.mem_cons_self ..)
      have := hs.other k (fun h => hk (List.mem_cons_of_mem _ h))
      rw [this, World.putObj_heap_other e]
theorem s0X_inv {r : Rx} : Inv r s0X := by
  constructor <;> simp [s0X]


theorem AnsX.shut {e : TypeId} {w w' : World} {Ds : List Nat} {lo n c : Nat} {a : Option Addr} {X : List Value} (h : AnsX e w lo a n c X) (hF : Frm (fun k => k ∈ Ds) w w') (hD : ∀ D, D ∈ Ds → w.heap[D]? = some (.deferred (some []))) : AnsX e w' lo a n c X := h.frm hF (fun x hx hp => by
  obtain ⟨_, cs, e⟩ := row_lt h.own hx
  rw [hD x hp] at e
  cases e)
theorem OnR.shut {w w' : World} {Ds : List Nat} {lo : Nat} {dv : Value} {V : List Value} {Ts : List (List Fa)} (h : OnR w lo dv V Ts) (hF : Frm (fun k => k ∈ Ds) w w') (hD : ∀ D, D ∈ Ds → w.heap[D]? = some (.deferred (some []))) : OnR w' lo dv V Ts :=
  ⟨h.1, fun i v fs h1 h2 => by
    obtain ⟨ys, a, c, e, ho, hd, hf⟩ := (h.2 i v fs h1 h2).ex
    refine ⟨ys, a, c, e, row_frm ho hF (fun x hx hp => ?_), fun y hy => ⟨(hd y hy).1.frm hF (fun x hx hp => ?_), (hd y hy).2⟩, hf⟩
    · obtain ⟨_, cs, e⟩ := row_lt ho hx
      rw [hD x hp] at e
      cases e
    · obtain ⟨_, cs, e⟩ := row_lt (hd y hy).1.own hx
      rw [hD x hp] at e
      cases e⟩
theorem results_tmp4L {fn : Func} {p q r s : Tmp} (h : fn.results = #[.tmp p, .tmp q, .tmp r, .tmp s]) (tmps : Array Value) (P : Program) (w : World) :
    (results fn tmps).run P w = .ok (.tuple #[tmps.getD p undef, tmps.getD q undef, tmps.getD r undef, tmps.getD s undef]) w := by
  simp only [results, h]
  simp [Sem.run_bind, Result.andThen]
/-- what Listen answers -/
structure LsA (w w' : World) (np : Nat) (a4 a5 a6 : Option Addr) (c4 c5 c6 : Nat) (Ts : List (List Fa)) (Bs : List Bool) : Prop where
  o : ∃ V, AnsX 33 w' w.heap.size a4 np c4 V ∧ ∃ dv, OnR w' w.heap.size dv V Ts
  a : ∃ V, AnsX 33 w' w.heap.size a5 np c5 V ∧ ∃ dv, OnR w' w.heap.size dv V Ts
  l : AnsX 4 w' w.heap.size a6 np c6 (Bs.map Value.bool)
set_option maxHeartbeats 16000000 in
theorem listen_any (r : Rx) (ap : Option Addr) (np cp : Nat) (Ps : List (List Nat)) (w0 : World) (hP : RdPs w0 ap np cp Ps) (hnp : np ≤ 4000000000000) (hm : ∀ B, B ∈ Ps → B.length ≤ 4194304) (htk : sumX Ps ≤ 4611686018427387904) (hL1 : 1 ≤ r.L) (hL : r.L ≤ 2048) (hF : r.F ≤ 8) (hH : r.H ≤ 12) (hM : r.M ≤ 8) :
    Calls Try.prog 8 #[ruV r.L r.F r.H r.M, .slice ap np cp] w0 fun e w' => ∃ a4 a5 a6 c4 c5 c6, e = .returned (.tuple #[.slice a4 np c4, .slice a5 np c5, .slice a6 np c6, .int .i64 0]) ∧ LsA w0 w' np a4 a5 a6 c4 c5 c6 (toX r s0X Ps) (loX r s0X Ps) ∧ w0.grownBy w' none := by
  refine (callsIn_wide (n := 9)).1 (callsIn_of_wp_marks Try.func8 rfl trivial (wpIn_wide.2 ?_) rfl)
  simp only [Try.ntmps8, List.size_toArray, List.length_cons, List.length_nil, Nat.reduceAdd, Nat.reduceSub, Array.replicate_succ, Array.replicate_zero, List.push_toArray, List.append_toArray, List.nil_append, List.cons_append]
  have gA := World.grownBy_alloc w0 (.cells #[.int .i64 (r.L : Nat), .int .i64 (r.F : Nat), .int .i64 (r.H : Nat), .int .i64 (r.M : Nat)] 23) none
  have hNew := fun w => new_any r w hL1 hL hF hH hM
  have HP : Hid _ := hP
  clear hP
  unfold ruV at hNew ⊢
  conv => enter [2]; whnf
  go_wp2_with (go_at_call 15; refine (hNew _).mono ?_; rintro e w1 ⟨g, rfl, hgl, hS, g1⟩)
  have hz0 : w0.heap.size + 1 ≤ g := by simpa using hgl
  have F01 : Frm (fun _ => False) w0 w1 := Frm.of (grown_trans gA g1) (fun k e _ => by cases e)
  have HS : Hid _ := hS
  clear hS hNew gA g1 hgl
  refine wp_loop_ghost (fun z a W => ∃ (i : Nat) (a4 a5 a6 : Option Addr) (c4 c5 c6 : Nat) (Ds : List Nat) (u0 u1 u2 u3 u9 u10 u11 u12 u13 u14 u15 u16 u17 u18 u19 u20 u21 u22 u23 u24 u25 u26 u27 u31 u32 u33 u34 u35 u36 u37 u38 u39 u40 u41 u42 u43 u44 u45 u46 u47 u48 u49 u50 u51 u52 u53 u54 u55 u56 u57 u58 u59 u60 u61 u62 u63 u64 u65 u66 u67 : Value), a = (Act.mk (List.toArray (u0 :: u1 :: u2 :: u3 :: (.slice a4 i c4) :: (.slice a5 i c5) :: (.slice a6 i c6) :: (.int .i64 0) :: (.pointer (some ⟨g, 0, none⟩)) :: u9 :: u10 :: u11 :: u12 :: u13 :: u14 :: u15 :: u16 :: u17 :: u18 :: u19 :: u20 :: u21 :: u22 :: u23 :: u24 :: u25 :: u26 :: u27 :: (.slice ap np cp) :: (.int .i64 (np : Nat)) :: (.int .i64 (i : Nat)) :: u31 :: u32 :: u33 :: u34 :: u35 :: u36 :: u37 :: u38 :: u39 :: u40 :: u41 :: u42 :: u43 :: u44 :: u45 :: u46 :: u47 :: u48 :: u49 :: u50 :: u51 :: u52 :: u53 :: u54 :: u55 :: u56 :: u57 :: u58 :: u59 :: u60 :: u61 :: u62 :: u63 :: u64 :: u65 :: u66 :: u67 :: [])) (Ds.map mark)) ∧ i ≤ np ∧ z = np - i ∧ LsI w0 g r (mxX r s0X (Ps.take i)) i (toX r s0X (Ps.take i)) (loX r s0X (Ps.take i)) a4 a5 a6 c4 c5 c6 Ds W) np ?_ ?_
  · refine ⟨0, none, none, none, 0, 0, 0, [], ?_⟩
    repeat apply Exists.intro
    refine ⟨rfl, Nat.zero_le _, by omega, ⟨⟨_, [], [], HS.out, (fun x hx => by cases hx), AnsX.nil0 _ _ _, OnR.nil _ _ _, AnsX.nil0 _ _ _, OnR.nil _ _ _⟩, s0X_inv, by omega, (fun x hx => by cases hx), AnsX.nil0 _ _ _, F01, List.nodup_nil, (fun D hD => by cases hD), fun D hD => by cases hD⟩⟩
  · rintro z aa W ⟨i, a4, a5, a6, c4, c5, c6, Ds, u0, u1, u2, u3, u9, u10, u11, u12, u13, u14, u15, u16, u17, u18, u19, u20, u21, u22, u23, u24, u25, u26, u27, u31, u32, u33, u34, u35, u36, u37, u38, u39, u40, u41, u42, u43, u44, u45, u46, u47, u48, u49, u50, u51, u52, u53, u54, u55, u56, u57, u58, u59, u60, u61, u62, u63, u64, u65, u66, u67, rfl, hi, hz, J⟩
    by_cases hlt : i < np
    · obtain ⟨bp, po, rfl, hc⟩ := HP.out.at' (by omega)
      obtain ⟨B, hB⟩ : ∃ B, Ps[i]? = some B := ⟨_, List.getElem?_eq_getElem (by have := HP.out.len; omega)⟩
      obtain ⟨a, m, cap, cI, hR⟩ := hc i B hB
      have hBm : B ∈ Ps := List.mem_of_getElem? hB
      have hml := hm B hBm
      have hlen := hR.len
      have htke := mxX_tk r (Ps.take i) s0X
      have hsum := sumX_take B Ps i hB
      have htake : Ps.take (i + 1) = Ps.take i ++ [B] := by rw [List.take_add_one, hB]; rfl
      have hcW := cell_frm cI J.fr (fun h => h)
      have hlt' : (i : Int) < (np : Int) := by omega
      refine wp_seq_k fun K1 hK1 => ?_
      have HK1 : Hid _ := hK1
      clear hK1
      go_wp2
      refine HK1.out _ _ ?_
      clear HK1
      refine wp_seq_k fun K2 hK2 => ?_
      have HK2 : Hid _ := hK2
      clear hK2
      go_wp2
      refine HK2.out _ _ ?_
      clear HK2
      refine li_8 w0 W g i np cp po bp a4 a5 a6 c4 c5 c6 r (mxX r s0X (Ps.take i)) (toX r s0X (Ps.take i)) (loX r s0X (Ps.take i)) Ds a m cap B J hlt hnp hcW hR (by omega) (by rw [htke]; show 0 + _ + _ ≤ _; omega) hL1 hL (by omega) (by omega) ?_
      intro g4 d4 g5 d5 g6 d6 D1 D2 D3 W' z11 z12 z13 z14 z32 z33 z34 z35 z36 z37 z43 z45 z51 z52 z53 z54 z55 z56 z57 z58 z59 z60 z61 z62 z63 z64 J'
      show ∃ n', _ ∧ _
      refine ⟨np - (i + 1), by omega, i + 1, some ⟨g4, 0, none⟩, some ⟨g5, 0, none⟩, some ⟨g6, 0, none⟩, d4, d5, d6, D3 :: D2 :: D1 :: Ds, ?_⟩
      repeat apply Exists.intro
      refine ⟨rfl, by omega, rfl, ?_⟩
      rw [htake, mxX_add, toX_add, loX_add, hlen]
      exact J'
    · obtain rfl : i = np := by omega
      have hge : ¬ ((i : Int) < (i : Int)) := by omega
      have htl : Ps.take i = Ps := List.take_of_length_le (by have := HP.out.len; omega)
      rw [htl] at J
      have HJ : Hid _ := J
      clear J
      go_wp2
      have J := HJ.out
      show LeavesInM Fence.wide 9 Try.prog Try.f8 _ _ (Ds.map mark) .returning W
      refine leaves_marksD Ds W J.nd J.de (fun w' hs => ?_)
      have hFF : Frm (fun k => k ∈ Ds) W w' := ⟨hs.os, hs.tape, hs.output, by rw [hs.size]; exact Nat.le_refl _, fun k _ hn => hs.other k hn⟩
      obtain ⟨dv, V4, V5, _, _, hA4, hO4, hA5, hO5⟩ := J.sy
      refine ⟨_, results_tmp4L (p := 4) (q := 5) (r := 6) (s := 7) (by kernel_rfl) _ _ _, a4, a5, a6, c4, c5, c6, rfl, ⟨⟨V4, hA4.shut hFF J.de, dv, hO4.shut hFF J.de⟩, ⟨V5, hA5.shut hFF J.de, dv, hO5.shut hFF J.de⟩, J.lk.shut hFF J.de⟩, ?_⟩
      have h0 := J.fr.trans hFF (fun k hk h => by have := J.dg k h; omega)
      exact ⟨h0.os, h0.tape, h0.output, h0.size, fun k hk _ => h0.block k hk (fun h => h)⟩
end
end Go.Proofs.Ythdjpbfknbafgaa
