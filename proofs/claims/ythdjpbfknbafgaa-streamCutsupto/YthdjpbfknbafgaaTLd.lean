import Derived.Test.YthdjpbfknbafgaaTLc
namespace Go.Proofs.Ythdjpbfknbafgaa
open Go.RowKit Go.Shelf
set_option maxRecDepth 100000
set_option linter.unusedVariables false
set_option linter.unusedSimpArgs false
attribute [local go_sem] Oper.semAt_some

/-- the frames that were told, as they lie in memory; none of their bytes where the machine writes -/
structure FoR (W : World) (lo : Nat) (dv : Value) (v : Value) (fs : List Fa) : Prop where
  ex : ∃ (ys : List Fy) (a : Option Addr) (c : Nat), v = .slice a ys.length c ∧ W.ownsRow lo 42 4 v ys.length (flY ys) ∧ (∀ y, y ∈ ys → Ans W lo y.1.a y.1.n y.2 y.1.D ∧ ∀ x, (Value.slice y.1.a y.1.n y.2).ownBlock = some x → dv.ownBlock ≠ some x) ∧ ys.map (fun y => absF y.1) = fs
theorem FoR.frm {W W' : World} {p : Nat → Prop} {lo : Nat} {dv v : Value} {fs : List Fa} (h : FoR W lo dv v fs) (hF : Frm p W W') (hp : ∀ k, p k → k < W.heap.size → (∃ cs, W.heap[k]? = some (.cells cs 5) ∧ dv.ownBlock = some k) ∨ ∃ cs t, W.heap[k]? = some (.cells cs t) ∧ t ≠ 42 ∧ t ≠ 5) : FoR W' lo dv v fs := by
  obtain ⟨ys, a, c, e, ho, hd, hf⟩ := h.ex
  refine ⟨ys, a, c, e, row_frm ho hF (fun x hx hpx => ?_), fun y hy => ⟨(hd y hy).1.frm hF (fun x hx hpx => ?_), (hd y hy).2⟩, hf⟩
  · obtain ⟨hl, cur, hc⟩ := row_lt ho hx
    rcases hp x hpx hl with ⟨cs, h1, _⟩ | ⟨cs, t, h1, h2, _⟩
    · exact cells_ne hc h1 (by decide)
    · exact cells_ne hc h1 (fun e => h2 e.symm)
  · obtain ⟨hl, cur, hc⟩ := row_lt (hd y hy).1.own hx
    rcases hp x hpx hl with ⟨cs, _, h1⟩ | ⟨cs, t, h1, _, h2⟩
    · exact (hd y hy).2 x hx h1
    · exact cells_ne hc h1 (fun e => h2 e.symm)
theorem FoR.far {W : World} {lo : Nat} {dv dv' v : Value} {fs : List Fa} (h : FoR W lo dv v fs) (hd : ∀ x, dv'.ownBlock = some x → dv.ownBlock = some x ∨ W.heap.size ≤ x) : FoR W lo dv' v fs := by
  obtain ⟨ys, a, c, e, ho, hd', hf⟩ := h.ex
  refine ⟨ys, a, c, e, ho, fun y hy => ⟨(hd' y hy).1, fun x hx hx' => ?_⟩, hf⟩
  rcases hd x hx' with h1 | h1
  · exact (hd' y hy).2 x hx h1
  · have := (row_lt (hd' y hy).1.own hx).1; omega
theorem FoR.step {W W' : World} {p : Nat → Prop} {lo : Nat} {dv dv' v : Value} {fs : List Fa} (h : FoR W lo dv v fs) (hF : Frm p W W') (hp : ∀ k, p k → k < W.heap.size → (∃ cs, W.heap[k]? = some (.cells cs 5) ∧ dv.ownBlock = some k) ∨ ∃ cs t, W.heap[k]? = some (.cells cs t) ∧ t ≠ 42 ∧ t ≠ 5)
    (hd : ∀ x, dv'.ownBlock = some x → dv.ownBlock = some x ∨ W.heap.size ≤ x) : FoR W' lo dv' v fs := by
  obtain ⟨ys, a, c, e, ho, hd', hf⟩ := h.ex
  refine ⟨ys, a, c, e, row_frm ho hF (fun x hx hpx => ?_), fun y hy => ⟨(hd' y hy).1.frm hF (fun x hx hpx => ?_), fun x hx hx' => ?_⟩, hf⟩
  · obtain ⟨hl, cur, hc⟩ := row_lt ho hx
    rcases hp x hpx hl with ⟨cs, h1, _⟩ | ⟨cs, t, h1, h2, _⟩
    · exact cells_ne hc h1 (by decide)
    · exact cells_ne hc h1 (fun e => h2 e.symm)
  · obtain ⟨hl, cur, hc⟩ := row_lt (hd' y hy).1.own hx
    rcases hp x hpx hl with ⟨cs, _, h1⟩ | ⟨cs, t, h1, _, h2⟩
    · exact (hd' y hy).2 x hx h1
    · exact cells_ne hc h1 (fun e => h2 e.symm)
  · rcases hd x hx' with h1 | h1
    · exact (hd' y hy).2 x hx h1
    · have := (row_lt (hd' y hy).1.own hx).1; omega
theorem FoR.low {W : World} {lo lo' : Nat} {dv v : Value} {fs : List Fa} (h : FoR W lo dv v fs) (hl : lo' ≤ lo) : FoR W lo' dv v fs := by
  obtain ⟨ys, a, c, e, ho, hd, hf⟩ := h.ex
  refine ⟨ys, a, c, e, ⟨ho.1, ?_⟩, fun y hy => ⟨(hd y hy).1.wide hl, (hd y hy).2⟩, hf⟩
  rcases ho.2 with h2 | ⟨g, cap, cur, h3, h4, h5⟩
  · exact .inl h2
  · exact .inr ⟨g, cap, cur, h3, Nat.le_trans hl h4, h5⟩
/-- so many of them, one for each piece -/
def OnR (W : World) (lo : Nat) (dv : Value) (V : List Value) (Ts : List (List Fa)) : Prop := V.length = Ts.length ∧ ∀ (i : Nat) v fs, V[i]? = some v → Ts[i]? = some fs → FoR W lo dv v fs
theorem OnR.frm {W W' : World} {p : Nat → Prop} {lo : Nat} {dv : Value} {V : List Value} {Ts : List (List Fa)} (h : OnR W lo dv V Ts) (hF : Frm p W W') (hp : ∀ k, p k → k < W.heap.size → (∃ cs, W.heap[k]? = some (.cells cs 5) ∧ dv.ownBlock = some k) ∨ ∃ cs t, W.heap[k]? = some (.cells cs t) ∧ t ≠ 42 ∧ t ≠ 5) : OnR W' lo dv V Ts :=
  ⟨h.1, fun i v fs h1 h2 => (h.2 i v fs h1 h2).frm hF hp⟩
theorem OnR.far {W : World} {lo : Nat} {dv dv' : Value} {V : List Value} {Ts : List (List Fa)} (h : OnR W lo dv V Ts) (hd : ∀ x, dv'.ownBlock = some x → dv.ownBlock = some x ∨ W.heap.size ≤ x) : OnR W lo dv' V Ts := ⟨h.1, fun i v fs h1 h2 => (h.2 i v fs h1 h2).far hd⟩
theorem OnR.step {W W' : World} {p : Nat → Prop} {lo : Nat} {dv dv' : Value} {V : List Value} {Ts : List (List Fa)} (h : OnR W lo dv V Ts) (hF : Frm p W W') (hp : ∀ k, p k → k < W.heap.size → (∃ cs, W.heap[k]? = some (.cells cs 5) ∧ dv.ownBlock = some k) ∨ ∃ cs t, W.heap[k]? = some (.cells cs t) ∧ t ≠ 42 ∧ t ≠ 5)
    (hd : ∀ x, dv'.ownBlock = some x → dv.ownBlock = some x ∨ W.heap.size ≤ x) : OnR W' lo dv' V Ts := ⟨h.1, fun i v fs h1 h2 => (h.2 i v fs h1 h2).step hF hp hd⟩
theorem OnR.add {W : World} {lo : Nat} {dv v : Value} {V : List Value} {fs : List Fa} {Ts : List (List Fa)} (h : OnR W lo dv V Ts) (hv : FoR W lo dv v fs) : OnR W lo dv (V ++ [v]) (Ts ++ [fs]) := by
  refine ⟨by rw [List.length_append, List.length_append, h.1]; rfl, fun i v' fs' h1 h2 => ?_⟩
  by_cases hi : i < V.length
  · rw [List.getElem?_append_left hi] at h1
    rw [List.getElem?_append_left (by rw [← h.1]; exact hi)] at h2
    exact h.2 i v' fs' h1 h2
  · rw [List.getElem?_append_right (by omega)] at h1
    rw [List.getElem?_append_right (by rw [← h.1]; omega)] at h2
    have hl : i - V.length < 1 := (List.getElem?_eq_some_iff.1 h1).1
    have e : i - V.length = 0 := by omega
    rw [e] at h1
    rw [← h.1, e] at h2
    cases h1
    cases h2
    exact hv
theorem OnR.nil (W : World) (lo : Nat) (dv : Value) : OnR W lo dv [] [] := ⟨rfl, fun i v fs h _ => by cases h⟩
/-- between two pieces -/
structure LsI (w0 : World) (g : Nat) (r : Rx) (s : Mx) (n : Nat) (Ts : List (List Fa)) (Bs : List Bool) (a4 a5 a6 : Option Addr) (c4 c5 c6 : Nat) (Ds : List Nat) (W : World) : Prop where
  sy : ∃ dv V4 V5, SyM W g r s dv ∧ (∀ x, dv.ownBlock = some x → w0.heap.size ≤ x) ∧ AnsX 33 W w0.heap.size a4 n c4 V4 ∧ OnR W w0.heap.size dv V4 Ts ∧ AnsX 33 W w0.heap.size a5 n c5 V5 ∧ OnR W w0.heap.size dv V5 Ts
  inv : Inv r s
  hg : w0.heap.size ≤ g
  ap : ∀ x, (Value.slice a4 n c4).ownBlock = some x → (Value.slice a5 n c5).ownBlock ≠ some x
  lk : AnsX 4 W w0.heap.size a6 n c6 (Bs.map Value.bool)
  fr : Frm (fun _ => False) w0 W
  nd : Ds.Nodup
  de : ∀ D, D ∈ Ds → W.heap[D]? = some (.deferred (some []))
  dg : ∀ D, D ∈ Ds → w0.heap.size ≤ D
theorem de_frm {p : Nat → Prop} {W W' : World} {Ds : List Nat} (h : ∀ D, D ∈ Ds → W.heap[D]? = some (.deferred (some []))) (hF : Frm p W W') (hp : ∀ k, p k → k < W.heap.size → ∃ cs t, W.heap[k]? = some (.cells cs t)) : ∀ D, D ∈ Ds → W'.heap[D]? = some (.deferred (some [])) := fun D hD => by
  have hl := (Array.getElem?_eq_some_iff.1 (h D hD)).1
  refine (hF.block D hl (fun hpD => ?_)).trans (h D hD)
  obtain ⟨cs, t, e⟩ := hp D hpD hl
  rw [h D hD] at e
  cases e
/-- what a range has collected, as it is told -/
theorem CoI.told {w W : World} {bA : Nat} {ys : List Fy} {fs : List Fv} {T : List Fa} {dv : Value} (h : CoI w bA ys W) (hys : ys.map (fun y => absF y.1) = fs.map absF) (hab : fs.map absF = T) (hd : ∀ x, dv.ownBlock = some x → x < w.heap.size) : ∃ a n c, Boxed W bA 33 (.slice a n c) ∧ FoR W w.heap.size dv (.slice a n c) T := by
  obtain ⟨v, hb, ho⟩ := h.box
  obtain ⟨a, c, rfl⟩ : ∃ a c, v = .slice a ys.length c := by
    rcases ho.2 with ⟨rfl, e⟩ | ⟨g, cap, cur, rfl, _⟩
    · rw [e]; exact ⟨_, _, rfl⟩
    · exact ⟨_, _, rfl⟩
  refine ⟨a, _, c, hb, ys, a, c, rfl, ho, fun y hy => ⟨h.dat y hy, fun x hx hx' => ?_⟩, hys.trans hab⟩
  have h1 := hd x hx'
  have h2 := (h.dat y hy).new x hx
  omega
theorem SyM.dlt {w : World} {g : Nat} {r : Rx} {s : Mx} {dv : Value} (hS : SyM w g r s dv) : ∀ x, dv.ownBlock = some x → x < w.heap.size := fun x hx => by
  by_cases hm : s.mode = 1
  · obtain ⟨gd, e, _, ho, _⟩ := hS.busy hm
    exact (row_lt ho hx).1
  · rw [(hS.idle hm).1] at hx; cases hx
theorem SyM.cellsT {w : World} {g : Nat} {r : Rx} {s : Mx} {dv : Value} (h : SyM w g r s dv) : ∀ k, (k = g ∨ some k = dv.ownBlock) → k < w.heap.size → (∃ cs, w.heap[k]? = some (.cells cs 5) ∧ dv.ownBlock = some k) ∨ ∃ cs, w.heap[k]? = some (.cells cs 65) := by
  rintro k (rfl | hk) _
  · exact .inr ⟨_, h.blk⟩
  · by_cases hm : s.mode = 1
    · obtain ⟨gd, e, _, ho, _⟩ := h.busy hm
      obtain ⟨_, cs, hc⟩ := row_lt ho hk.symm
      exact .inl ⟨cs, hc, hk.symm⟩
    · rw [(h.idle hm).1] at hk; cases hk
end Go.Proofs.Ythdjpbfknbafgaa
