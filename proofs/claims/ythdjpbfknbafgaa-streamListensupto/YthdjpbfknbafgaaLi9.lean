import Derived.Test.YthdjpbfknbafgaaLi8
namespace Go.Proofs.Ythdjpbfknbafgaa
open Go.RowKit
set_option maxRecDepth 100000
set_option linter.unusedVariables false
set_option linter.unusedSimpArgs false

section
open Go.RowKit Go.Shelf
attribute [local go_sem] Oper.semAt_some

theorem cells_ne' {e u : TypeId} {w : World} {lo n c m d : Nat} {a b : Option Addr} {X Y : List Value} {x : Nat} (h : AnsX e w lo a n c X) (k : AnsX u w lo b m d Y) (hx : (Value.slice a n c).ownBlock = some x) (hy : (Value.slice b m d).ownBlock = some x) (hne : e ≠ u := by decide) : False := by
  obtain ⟨_, c1, e1⟩ := row_lt h.own hx
  obtain ⟨_, c2, e2⟩ := row_lt k.own hy
  exact cells_ne e1 e2 hne

theorem SyM.frm {w w' : World} {p : Nat → Prop} {g : Nat} {r : Rx} {s : Mx} {dv : Value} (h : SyM w g r s dv) (hF : Frm p w w') (hg : ¬ p g) (hd : ∀ x, dv.ownBlock = some x → ¬ p x) : SyM w' g r s dv :=
  ⟨sy_frm h.blk hF hg, h.idle, fun hm => by
    obtain ⟨gd, e, hne, ho, hi⟩ := h.busy hm
    exact ⟨gd, e, hne, row_frm ho hF hd, hi⟩⟩
theorem AnsX.frm {e : TypeId} {w w' : World} {p : Nat → Prop} {lo n c : Nat} {a : Option Addr} {X : List Value} (h : AnsX e w lo a n c X) (hF : Frm p w w') (hn : ∀ x, (Value.slice a n c).ownBlock = some x → ¬ p x) : AnsX e w' lo a n c X := ⟨row_frm h.own hF hn, h.one, h.new⟩
theorem cell_frm {w w' : World} {p : Nat → Prop} {k o : Nat} {v : Value} (h : w.cell? ⟨k, o, none⟩ = some v) (hF : Frm p w w') (hn : ¬ p k) : w'.cell? ⟨k, o, none⟩ = some v :=
  (World.cell?_of_block (w := w) (hF.block k (World.block_lt_of_cell? w _ h) hn)).trans h
set_option maxHeartbeats 16000000 in
theorem li_18 {ds : List Deferred} {u0 u1 u2 u3 u7 u9 u10 u11 u12 u15 u16 u17 u18 u19 u20 u21 u22 u23 u24 u25 u26 u27 u28 u29 u30 u31 u32 u33 u34 u35 u36 u37 u38 u39 u40 u41 u42 u43 u44 u45 u46 u47 u48 u49 u50 u51 u52 u53 u54 u55 u56 u57 u58 u59 u60 u61 u62 u63 u64 u65 u66 u67 : Value} {Q : Exit → Act → World → Prop} (w : World) (lo n g bA bB : Nat) (a4 a5 a6 pA pB : Option Addr) (c4 c5 c6 nA cA nB cB : Nat) (V4 V5 V6 : List Value) (r : Rx) (s : Mx) (dv : Value)
    (cA0 : w.cell? ⟨bA, 0, none⟩ = some (.slice pA nA cA)) (cB0 : w.cell? ⟨bB, 0, none⟩ = some (.slice pB nB cB)) (hA4 : AnsX 33 w lo a4 n c4 V4) (hA5 : AnsX 33 w lo a5 n c5 V5) (hA6 : AnsX 4 w lo a6 n c6 V6) (hlo : lo ≤ w.heap.size) (hn : n ≤ 4000000000000)
    (hS : SyM w g r s dv) (b4 : ∀ x, (Value.slice a4 n c4).ownBlock = some x → x ≠ bA ∧ x ≠ bB ∧ x ≠ g ∧ dv.ownBlock ≠ some x ∧ (Value.slice a5 n c5).ownBlock ≠ some x ∧ (Value.slice a6 n c6).ownBlock ≠ some x) (b5 : ∀ x, (Value.slice a5 n c5).ownBlock = some x → x ≠ bA ∧ x ≠ bB ∧ x ≠ g ∧ dv.ownBlock ≠ some x ∧ (Value.slice a6 n c6).ownBlock ≠ some x)
    (b6A : (Value.slice a6 n c6).ownBlock ≠ some bA) (b6B : (Value.slice a6 n c6).ownBlock ≠ some bB) (hP : ∀ c a a' w, a.defers = a'.defers → Q (.panic c) a w → Q (.panic c) a' w)
    (hQ : ∀ g4 d4 g5 d5 g6 d6 W z51 z52 z53 z54 z55 z56 z57 z58 z59 z60 z61 z62 z63, AnsX 33 W lo (some ⟨g4, 0, none⟩) (n + 1) d4 (V4 ++ [.slice pA nA cA]) → AnsX 33 W lo (some ⟨g5, 0, none⟩) (n + 1) d5 (V5 ++ [.slice pB nB cB]) → AnsX 4 W lo (some ⟨g6, 0, none⟩) (n + 1) d6 (V6 ++ [.bool (s.mode != 0)]) → g4 ≠ g5 →
      Frm (fun k => (Value.slice a4 n c4).ownBlock = some k ∨ (Value.slice a5 n c5).ownBlock = some k ∨ (Value.slice a6 n c6).ownBlock = some k) w W → Q .normal (Act.mk (List.toArray (u0 :: u1 :: u2 :: u3 :: (.slice (some ⟨g4, 0, none⟩) (n + 1) d4) :: (.slice (some ⟨g5, 0, none⟩) (n + 1) d5) :: (.slice (some ⟨g6, 0, none⟩) (n + 1) d6) :: u7 :: (.pointer (some ⟨g, 0, none⟩)) :: u9 :: u10 :: u11 :: u12 :: (.pointer (some ⟨bA, 0, none⟩)) :: (.pointer (some ⟨bB, 0, none⟩)) :: u15 :: u16 :: u17 :: u18 :: u19 :: u20 :: u21 :: u22 :: u23 :: u24 :: u25 :: u26 :: u27 :: u28 :: u29 :: u30 :: u31 :: u32 :: u33 :: u34 :: u35 :: u36 :: u37 :: u38 :: u39 :: u40 :: u41 :: u42 :: u43 :: u44 :: u45 :: u46 :: u47 :: u48 :: u49 :: u50 :: z51 :: z52 :: z53 :: z54 :: z55 :: z56 :: z57 :: z58 :: z59 :: z60 :: z61 :: z62 :: z63 :: u64 :: u65 :: u66 :: u67 :: [])) ds) W) :
    Code.wp Try.prog (tailR 18 (Try.f8.body.getD .skip)) Q (Act.mk (List.toArray (u0 :: u1 :: u2 :: u3 :: (.slice a4 n c4) :: (.slice a5 n c5) :: (.slice a6 n c6) :: u7 :: (.pointer (some ⟨g, 0, none⟩)) :: u9 :: u10 :: u11 :: u12 :: (.pointer (some ⟨bA, 0, none⟩)) :: (.pointer (some ⟨bB, 0, none⟩)) :: u15 :: u16 :: u17 :: u18 :: u19 :: u20 :: u21 :: u22 :: u23 :: u24 :: u25 :: u26 :: u27 :: u28 :: u29 :: u30 :: u31 :: u32 :: u33 :: u34 :: u35 :: u36 :: u37 :: u38 :: u39 :: u40 :: u41 :: u42 :: u43 :: u44 :: u45 :: u46 :: u47 :: u48 :: u49 :: u50 :: u51 :: u52 :: u53 :: u54 :: u55 :: u56 :: u57 :: u58 :: u59 :: u60 :: u61 :: u62 :: u63 :: u64 :: u65 :: u66 :: u67 :: [])) ds) w := by
  conv => enter [2]; whnf
  have h6A : ¬ ((Value.slice a6 n c6).ownBlock = some bA) := b6A
  have h6B : ¬ ((Value.slice a6 n c6).ownBlock = some bB) := b6B
  have HQ : Hid _ := hQ
  clear hQ
  have hk4 : ∀ x, (Value.slice a4 n c4).ownBlock = some x → x < w.heap.size := fun x hx => (row_lt hA4.own hx).1
  have hk5 : ∀ x, (Value.slice a5 n c5).ownBlock = some x → x < w.heap.size := fun x hx => (row_lt hA5.own hx).1
  have hk6 : ∀ x, (Value.slice a6 n c6).ownBlock = some x → x < w.heap.size := fun x hx => (row_lt hA6.own hx).1
  have hdv : ∀ x, dv.ownBlock = some x → x < w.heap.size := fun x hx => by
    by_cases hm : s.mode = 1
    · obtain ⟨gd, e, _, ho, _⟩ := hS.busy hm
      exact (row_lt ho hx).1
    · rw [(hS.idle hm).1] at hx; cases hx
  have hAl : bA < w.heap.size := World.block_lt_of_cell? w _ cA0
  have hBl : bB < w.heap.size := World.block_lt_of_cell? w _ cB0
  have hgl : g < w.heap.size := hS.blk.lt
  have F0 : Frm (fun k => (Value.slice a4 n c4).ownBlock = some k ∨ (Value.slice a5 n c5).ownBlock = some k ∨ (Value.slice a6 n c6).ownBlock = some k) w w.drew := Frm.of (grown_drew w none) (fun k e _ => by cases e)
  have hf0 : Frm (fun _ => False) w w.drew := Frm.of (grown_drew w none) (fun k e _ => by cases e)
  replace cA0 := cell_frm cA0 hf0 (fun h => h)
  replace cB0 := cell_frm cB0 hf0 (fun h => h)
  replace hA4 := hA4.frm hf0 (fun _ _ h => h)
  replace hA5 := hA5.frm hf0 (fun _ _ h => h)
  replace hA6 := hA6.frm hf0 (fun _ _ h => h)
  replace hS := hS.frm hf0 (fun h => h) (fun _ _ h => h)
  have hN : w.heap.size ≤ w.drew.heap.size := hf0.size
  have SS : w.drew.cell? ⟨bA, 0, none⟩ = some (.slice pA nA cA) ∧ w.drew.cell? ⟨bB, 0, none⟩ = some (.slice pB nB cB) := ⟨cA0, cB0⟩
  refine wp_regionM (fun wz => wz.cell? ⟨bA, 0, none⟩ = some (.slice pA nA cA) ∧ wz.cell? ⟨bB, 0, none⟩ = some (.slice pB nB cB)) [] #[false, false, false, false, false, false, false, false, false, false, false, false, false, false, false, false] rfl (by kernel_rfl) ?_
  clear hf0
  generalize w.drew = wd at *
  refine wpAnyY_takeF 0 (.slice a4 n c4) rfl (by kernel_rfl) (fun _ _ _ h => hP _ _ _ _ (by rfl) h) rfl (by intro wz; go_simp; try rfl) ?_
  try simp only [List.getElem_toArray, List.getElem_cons_succ, List.getElem_cons_zero, Act.put, List.setIfInBounds_toArray, List.set_cons_zero, List.set_cons_succ]
  refine wpAnyY_take [] 1 (.slice pA nA cA) rfl (by kernel_rfl) (fun _ _ _ h => hP _ _ _ _ (by rfl) h) SS rfl (by rintro wz ⟨z1, z2⟩; go_simp) ?_
  try simp only [List.getElem_toArray, List.getElem_cons_succ, List.getElem_cons_zero, Act.put, List.setIfInBounds_toArray, List.set_cons_zero, List.set_cons_succ]
  refine wpAnyY_takeF 4 (.slice a5 n c5) rfl (by kernel_rfl) (fun _ _ _ h => hP _ _ _ _ (by rfl) h) rfl (by intro wz; go_simp; try rfl) ?_
  try simp only [List.getElem_toArray, List.getElem_cons_succ, List.getElem_cons_zero, Act.put, List.setIfInBounds_toArray, List.set_cons_zero, List.set_cons_succ]
  refine wpAnyY_take [] 5 (.slice pB nB cB) rfl (by kernel_rfl) (fun _ _ _ h => hP _ _ _ _ (by rfl) h) SS rfl (by rintro wz ⟨z1, z2⟩; go_simp) ?_
  try simp only [List.getElem_toArray, List.getElem_cons_succ, List.getElem_cons_zero, Act.put, List.setIfInBounds_toArray, List.set_cons_zero, List.set_cons_succ]
  refine wpAnyY_takeF 8 (.slice a6 n c6) rfl (by kernel_rfl) (fun _ _ _ h => hP _ _ _ _ (by rfl) h) rfl (by intro wz; go_simp; try rfl) ?_
  try simp only [List.getElem_toArray, List.getElem_cons_succ, List.getElem_cons_zero, Act.put, List.setIfInBounds_toArray, List.set_cons_zero, List.set_cons_succ]
  refine wpAnyY_takeF 9 (.pointer (some ⟨g, 0, none⟩)) rfl (by kernel_rfl) (fun _ _ _ h => hP _ _ _ _ (by rfl) h) rfl (by intro wz; go_simp; try rfl) ?_
  try simp only [List.getElem_toArray, List.getElem_cons_succ, List.getElem_cons_zero, Act.put, List.setIfInBounds_toArray, List.set_cons_zero, List.set_cons_succ]
  refine wpAnyY_twoB 2 6 rfl rfl (by kernel_rfl) (fun KK hKK => ?_) (fun KK hKK => ?_)
  · go_simp
    have FN : Frm (fun _ => False) wd (wd.alloc (.cells #[.slice pA nA cA] 33)) := Frm.of (World.grownBy_alloc wd _ none) (fun k e _ => by cases e)
    have hzW1 : wd.heap.size + 1 ≤ (wd.alloc (.cells #[.slice pA nA cA] 33)).heap.size := by simp
    have cTA : (wd.alloc (.cells #[.slice pA nA cA] 33)).cell? ⟨wd.heap.size, 0, none⟩ = some (.slice pA nA cA) := cell_of_row _ _ 0 _ _ _ (heap_alloc_new wd _)
    have SN : (wd.alloc (.cells #[.slice pA nA cA] 33)).cell? ⟨bA, 0, none⟩ = some (.slice pA nA cA) ∧ (wd.alloc (.cells #[.slice pA nA cA] 33)).cell? ⟨bB, 0, none⟩ = some (.slice pB nB cB) := ⟨cell_frm SS.1 FN (fun h => h), cell_frm SS.2 FN (fun h => h)⟩
    refine hKK _ _ (fun _ _ => SN) ?_
    clear hKK SS
    try simp only [List.getElem_toArray, List.getElem_cons_succ, List.getElem_cons_zero, Act.put, List.setIfInBounds_toArray, List.set_cons_zero, List.set_cons_succ]
    have SS := SN
    clear SN
    replace hA4 := hA4.frm FN (fun _ _ h => h)
    replace hA5 := hA5.frm FN (fun _ _ h => h)
    replace hA6 := hA6.frm FN (fun _ _ h => h)
    replace hS := hS.frm FN (fun h => h) (fun _ _ h => h)
    replace F0 := F0.trans FN (fun _ _ h => h.elim)
    clear FN
    obtain ⟨tA, htA⟩ : ∃ tA, tA = wd.heap.size := ⟨_, rfl⟩
    rw [← htA] at cTA hzW1
    simp only [← htA]
    have ltA : wd.heap.size ≤ tA := by omega
    clear htA
    generalize (wd.alloc (.cells #[.slice pA nA cA] 33)) = W1 at *
    refine wpAnyY_twoB 3 6 rfl rfl (by kernel_rfl) (fun KK hKK => ?_) (fun KK hKK => ?_)
    · refine step_of_listT rfl ?_
      refine wpList_psR W1 Try.underlying27 Try.inf_fs rfl (by decide) (.slice pA nA cA) rfl rfl _ _ rfl a4 n c4 lo V4 rfl hA4 (by omega) tA rfl cTA (by omega) ?_
      intro g4 d4 W2 hB4 G4 hx4
      show KK _ W2
      have FN : Frm (fun k => (Value.slice a4 n c4).ownBlock = some k) W1 W2 := Frm.of G4 (fun k e _ => e)
      have hzW2 := FN.size
      have SN : W2.cell? ⟨bA, 0, none⟩ = some (.slice pA nA cA) ∧ W2.cell? ⟨bB, 0, none⟩ = some (.slice pB nB cB) := ⟨cell_frm SS.1 FN (fun h => (b4 _ h).1 rfl), cell_frm SS.2 FN (fun h => (b4 _ h).2.1 rfl)⟩
      refine hKK _ _ (fun _ _ => SN) ?_
      clear hKK SS
      try simp only [List.getElem_toArray, List.getElem_cons_succ, List.getElem_cons_zero, Act.put, List.setIfInBounds_toArray, List.set_cons_zero, List.set_cons_succ]
      have SS := SN
      clear SN
      replace hA5 := hA5.frm FN (fun x hx h => (b4 _ h).2.2.2.2.1 hx)
      replace hA6 := hA6.frm FN (fun x hx h => (b4 _ h).2.2.2.2.2 hx)
      replace hS := hS.frm FN (fun h => (b4 _ h).2.2.1 rfl) (fun x hx h => (b4 _ h).2.2.2.1 hx)
      replace F0 := F0.trans FN (fun _ _ h => .inl h)
      clear FN G4 hA4
      have hg4 : ∀ x, (Value.slice a5 n c5).ownBlock = some x → g4 ≠ x := fun x hx e => by
        have h5 := hk5 x hx
        rcases hx4 with h | h
        · exact (b4 g4 h).2.2.2.2.1 (by rw [e]; exact hx)
        · omega
      refine wpAnyY_oneB 6 rfl (by kernel_rfl) (fun KK hKK => ?_)
      go_simp
      have FN : Frm (fun _ => False) W2 (W2.alloc (.cells #[.slice pB nB cB] 33)) := Frm.of (World.grownBy_alloc W2 _ none) (fun k e _ => by cases e)
      have hzW3 : W2.heap.size + 1 ≤ (W2.alloc (.cells #[.slice pB nB cB] 33)).heap.size := by simp
      have cTB : (W2.alloc (.cells #[.slice pB nB cB] 33)).cell? ⟨W2.heap.size, 0, none⟩ = some (.slice pB nB cB) := cell_of_row _ _ 0 _ _ _ (heap_alloc_new W2 _)
      have SN : (W2.alloc (.cells #[.slice pB nB cB] 33)).cell? ⟨bA, 0, none⟩ = some (.slice pA nA cA) ∧ (W2.alloc (.cells #[.slice pB nB cB] 33)).cell? ⟨bB, 0, none⟩ = some (.slice pB nB cB) := ⟨cell_frm SS.1 FN (fun h => h), cell_frm SS.2 FN (fun h => h)⟩
      refine hKK _ _ (fun _ _ => SN) ?_
      clear hKK SS
      try simp only [List.getElem_toArray, List.getElem_cons_succ, List.getElem_cons_zero, Act.put, List.setIfInBounds_toArray, List.set_cons_zero, List.set_cons_succ]
      have SS := SN
      clear SN
      replace hB4 := hB4.frm FN (fun _ _ h => h)
      replace hA5 := hA5.frm FN (fun _ _ h => h)
      replace hA6 := hA6.frm FN (fun _ _ h => h)
      replace hS := hS.frm FN (fun h => h) (fun _ _ h => h)
      replace F0 := F0.trans FN (fun _ _ h => h.elim)
      clear FN
      obtain ⟨tB, htB⟩ : ∃ tB, tB = W2.heap.size := ⟨_, rfl⟩
      rw [← htB] at cTB hzW3
      simp only [← htB]
      have ltB : W2.heap.size ≤ tB := by omega
      clear htB
      generalize (W2.alloc (.cells #[.slice pB nB cB] 33)) = W3 at *
      refine wpAnyY_oneB 7 rfl (by kernel_rfl) (fun KK hKK => ?_)
      refine step_of_listT rfl ?_
      refine wpList_psR W3 Try.underlying27 Try.inf_fs rfl (by decide) (.slice pB nB cB) rfl rfl _ _ rfl a5 n c5 lo V5 rfl hA5 (by omega) tB rfl cTB (by omega) ?_
      intro g5 d5 W7 hB5 G5 hx5
      show KK _ W7
      have FN : Frm (fun k => (Value.slice a5 n c5).ownBlock = some k) W3 W7 := Frm.of G5 (fun k e _ => e)
      have hzW7 := FN.size
      have h45 : g4 ≠ g5 := fun e => by
        rcases hx5 with h | h
        · exact hg4 g5 h e
        · have h9 : g4 < W3.heap.size := (row_lt hB4.own rfl).1
          omega
      refine hKK _ _ (fun _ _ => ⟨cell_frm SS.1 FN (fun h => (b5 _ h).1 rfl), cell_frm SS.2 FN (fun h => (b5 _ h).2.1 rfl)⟩) ?_
      clear hKK SS
      try simp only [List.getElem_toArray, List.getElem_cons_succ, List.getElem_cons_zero, Act.put, List.setIfInBounds_toArray, List.set_cons_zero, List.set_cons_succ]
      replace hB4 := hB4.frm FN (fun x hx h => hg4 x h (Option.some.inj hx))
      replace hA6 := hA6.frm FN (fun x hx h => (b5 _ h).2.2.2.2 hx)
      replace hS := hS.frm FN (fun h => (b5 _ h).2.2.1 rfl) (fun x hx h => (b5 _ h).2.2.2.1 hx)
      replace F0 := F0.trans FN (fun _ _ h => .inr (.inl h))
      clear FN G5 hA5 cTB
      refine wpAnyY_oneB 10 rfl (by kernel_rfl) (fun KK hKK => ?_)
      go_simp
      go_at_call 18
      refine (locked_any g r s dv W7 hS).mono ?_
      rintro e w8 ⟨rfl, hw⟩
      have hw := hw.symm
      subst hw
      dsimp only
      refine hKK _ _ (fun h _ => h) ?_
      try simp only [List.getElem_toArray, List.getElem_cons_succ, List.getElem_cons_zero, Act.put, List.setIfInBounds_toArray, List.set_cons_zero, List.set_cons_succ]
      refine wpAnyY_oneB 11 rfl (by kernel_rfl) (fun KK hKK => ?_)
      go_simp
      have FN : Frm (fun _ => False) W7 (W7.alloc (.cells #[.bool (s.mode != 0)] 4)) := Frm.of (World.grownBy_alloc W7 _ none) (fun k e _ => by cases e)
      have hzW8 : W7.heap.size + 1 ≤ (W7.alloc (.cells #[.bool (s.mode != 0)] 4)).heap.size := by simp
      have cTC : (W7.alloc (.cells #[.bool (s.mode != 0)] 4)).cell? ⟨W7.heap.size, 0, none⟩ = some (.bool (s.mode != 0)) := cell_of_row _ _ 0 _ _ _ (heap_alloc_new W7 _)
      refine hKK _ _ (fun h _ => ⟨cell_frm h.1 FN (fun h => h), cell_frm h.2 FN (fun h => h)⟩) ?_
      try simp only [List.getElem_toArray, List.getElem_cons_succ, List.getElem_cons_zero, Act.put, List.setIfInBounds_toArray, List.set_cons_zero, List.set_cons_succ]
      replace hB4 := hB4.frm FN (fun _ _ h => h)
      replace hB5 := hB5.frm FN (fun _ _ h => h)
      replace hA6 := hA6.frm FN (fun _ _ h => h)
      replace F0 := F0.trans FN (fun _ _ h => h.elim)
      clear FN
      obtain ⟨tC, htC⟩ : ∃ tC, tC = W7.heap.size := ⟨_, rfl⟩
      rw [← htC] at cTC hzW8
      simp only [← htC]
      have ltC : W7.heap.size ≤ tC := by omega
      clear htC
      generalize (W7.alloc (.cells #[.bool (s.mode != 0)] 4)) = W8 at *
      refine wpAnyY_oneB 12 rfl (by kernel_rfl) (fun KK hKK => ?_)
      refine step_of_listT rfl ?_
      refine wpList_psR W8 Try.underlying28 Try.inf_bo rfl (by decide) (.bool (s.mode != 0)) rfl rfl _ _ rfl a6 n c6 lo V6 rfl hA6 (by omega) tC rfl cTC (by omega) ?_
      intro g6 d6 W9 hB6 G6 hx6
      show KK _ W9
      have FN : Frm (fun k => (Value.slice a6 n c6).ownBlock = some k) W8 W9 := Frm.of G6 (fun k e _ => e)
      refine hKK _ _ (fun h _ => ⟨cell_frm h.1 FN h6A, cell_frm h.2 FN h6B⟩) ?_
      try simp only [List.getElem_toArray, List.getElem_cons_succ, List.getElem_cons_zero, Act.put, List.setIfInBounds_toArray, List.set_cons_zero, List.set_cons_succ]
      replace hB4 := hB4.frm FN (fun x hx h => cells_ne' hB4 hA6 hx h)
      replace hB5 := hB5.frm FN (fun x hx h => cells_ne' hB5 hA6 hx h)
      replace F0 := F0.trans FN (fun _ _ h => .inr (.inr h))
      clear FN
      refine wpAnyY_oneB 13 rfl (by kernel_rfl) (fun KK hKK => ?_)
      go_simp
      refine hKK _ _ (fun h _ => h) ?_
      try simp only [List.getElem_toArray, List.getElem_cons_succ, List.getElem_cons_zero, Act.put, List.setIfInBounds_toArray, List.set_cons_zero, List.set_cons_succ]
      refine wpAnyY_oneB 14 rfl (by kernel_rfl) (fun KK hKK => ?_)
      go_simp
      refine hKK _ _ (fun h _ => h) ?_
      try simp only [List.getElem_toArray, List.getElem_cons_succ, List.getElem_cons_zero, Act.put, List.setIfInBounds_toArray, List.set_cons_zero, List.set_cons_succ]
      refine wpAnyY_oneB 15 rfl (by kernel_rfl) (fun KK hKK => ?_)
      go_simp
      refine hKK _ _ (fun h _ => h) ?_
      try simp only [List.getElem_toArray, List.getElem_cons_succ, List.getElem_cons_zero, Act.put, List.setIfInBounds_toArray, List.set_cons_zero, List.set_cons_succ]
      refine wpAnyY_doneB (by kernel_rfl) ?_ _
      exact HQ.out g4 d4 g5 d5 g6 d6 W9 _ _ _ _ _ _ _ _ _ _ _ _ _ hB4 hB5 hB6 h45 F0
    · go_simp
      have FN : Frm (fun _ => False) W1 (W1.alloc (.cells #[.slice pB nB cB] 33)) := Frm.of (World.grownBy_alloc W1 _ none) (fun k e _ => by cases e)
      have hzW2 : W1.heap.size + 1 ≤ (W1.alloc (.cells #[.slice pB nB cB] 33)).heap.size := by simp
      have cTB : (W1.alloc (.cells #[.slice pB nB cB] 33)).cell? ⟨W1.heap.size, 0, none⟩ = some (.slice pB nB cB) := cell_of_row _ _ 0 _ _ _ (heap_alloc_new W1 _)
      have SN : (W1.alloc (.cells #[.slice pB nB cB] 33)).cell? ⟨bA, 0, none⟩ = some (.slice pA nA cA) ∧ (W1.alloc (.cells #[.slice pB nB cB] 33)).cell? ⟨bB, 0, none⟩ = some (.slice pB nB cB) := ⟨cell_frm SS.1 FN (fun h => h), cell_frm SS.2 FN (fun h => h)⟩
      refine hKK _ _ (fun _ _ => SN) ?_
      clear hKK SS
      try simp only [List.getElem_toArray, List.getElem_cons_succ, List.getElem_cons_zero, Act.put, List.setIfInBounds_toArray, List.set_cons_zero, List.set_cons_succ]
      have SS := SN
      clear SN
      replace hA4 := hA4.frm FN (fun _ _ h => h)
      replace hA5 := hA5.frm FN (fun _ _ h => h)
      replace hA6 := hA6.frm FN (fun _ _ h => h)
      replace hS := hS.frm FN (fun h => h) (fun _ _ h => h)
      replace F0 := F0.trans FN (fun _ _ h => h.elim)
      replace cTA := cell_frm cTA FN (fun h => h)
      clear FN
      obtain ⟨tB, htB⟩ : ∃ tB, tB = W1.heap.size := ⟨_, rfl⟩
      rw [← htB] at cTB hzW2
      simp only [← htB]
      have ltB : W1.heap.size ≤ tB := by omega
      clear htB
      generalize (W1.alloc (.cells #[.slice pB nB cB] 33)) = W2 at *
      refine wpAnyY_oneB 3 rfl (by kernel_rfl) (fun KK hKK => ?_)
      refine step_of_listT rfl ?_
      refine wpList_psR W2 Try.underlying27 Try.inf_fs rfl (by decide) (.slice pA nA cA) rfl rfl _ _ rfl a4 n c4 lo V4 rfl hA4 (by omega) tA rfl cTA (by omega) ?_
      intro g4 d4 W3 hB4 G4 hx4
      show KK _ W3
      have FN : Frm (fun k => (Value.slice a4 n c4).ownBlock = some k) W2 W3 := Frm.of G4 (fun k e _ => e)
      have hzW3 := FN.size
      have SN : W3.cell? ⟨bA, 0, none⟩ = some (.slice pA nA cA) ∧ W3.cell? ⟨bB, 0, none⟩ = some (.slice pB nB cB) := ⟨cell_frm SS.1 FN (fun h => (b4 _ h).1 rfl), cell_frm SS.2 FN (fun h => (b4 _ h).2.1 rfl)⟩
      refine hKK _ _ (fun _ _ => SN) ?_
      clear hKK SS
      try simp only [List.getElem_toArray, List.getElem_cons_succ, List.getElem_cons_zero, Act.put, List.setIfInBounds_toArray, List.set_cons_zero, List.set_cons_succ]
      have SS := SN
      clear SN
      replace hA5 := hA5.frm FN (fun x hx h => (b4 _ h).2.2.2.2.1 hx)
      replace hA6 := hA6.frm FN (fun x hx h => (b4 _ h).2.2.2.2.2 hx)
      replace hS := hS.frm FN (fun h => (b4 _ h).2.2.1 rfl) (fun x hx h => (b4 _ h).2.2.2.1 hx)
      replace F0 := F0.trans FN (fun _ _ h => .inl h)
      replace cTB := cell_frm cTB FN (fun h => by have := hk4 _ h; omega)
      clear FN G4 hA4
      have hg4 : ∀ x, (Value.slice a5 n c5).ownBlock = some x → g4 ≠ x := fun x hx e => by
        have h5 := hk5 x hx
        rcases hx4 with h | h
        · exact (b4 g4 h).2.2.2.2.1 (by rw [e]; exact hx)
        · omega
      refine wpAnyY_oneB 7 rfl (by kernel_rfl) (fun KK hKK => ?_)
      refine step_of_listT rfl ?_
      refine wpList_psR W3 Try.underlying27 Try.inf_fs rfl (by decide) (.slice pB nB cB) rfl rfl _ _ rfl a5 n c5 lo V5 rfl hA5 (by omega) tB rfl cTB (by omega) ?_
      intro g5 d5 W7 hB5 G5 hx5
      show KK _ W7
      have FN : Frm (fun k => (Value.slice a5 n c5).ownBlock = some k) W3 W7 := Frm.of G5 (fun k e _ => e)
      have hzW7 := FN.size
      have h45 : g4 ≠ g5 := fun e => by
        rcases hx5 with h | h
        · exact hg4 g5 h e
        · have h9 : g4 < W3.heap.size := (row_lt hB4.own rfl).1
          omega
      refine hKK _ _ (fun _ _ => ⟨cell_frm SS.1 FN (fun h => (b5 _ h).1 rfl), cell_frm SS.2 FN (fun h => (b5 _ h).2.1 rfl)⟩) ?_
      clear hKK SS
      try simp only [List.getElem_toArray, List.getElem_cons_succ, List.getElem_cons_zero, Act.put, List.setIfInBounds_toArray, List.set_cons_zero, List.set_cons_succ]
      replace hB4 := hB4.frm FN (fun x hx h => hg4 x h (Option.some.inj hx))
      replace hA6 := hA6.frm FN (fun x hx h => (b5 _ h).2.2.2.2 hx)
      replace hS := hS.frm FN (fun h => (b5 _ h).2.2.1 rfl) (fun x hx h => (b5 _ h).2.2.2.1 hx)
      replace F0 := F0.trans FN (fun _ _ h => .inr (.inl h))
      clear FN G5 hA5 cTB
      refine wpAnyY_oneB 10 rfl (by kernel_rfl) (fun KK hKK => ?_)
      go_simp
      go_at_call 18
      refine (locked_any g r s dv W7 hS).mono ?_
      rintro e w8 ⟨rfl, hw⟩
      have hw := hw.symm
      subst hw
      dsimp only
      refine hKK _ _ (fun h _ => h) ?_
      try simp only [List.getElem_toArray, List.getElem_cons_succ, List.getElem_cons_zero, Act.put, List.setIfInBounds_toArray, List.set_cons_zero, List.set_cons_succ]
      refine wpAnyY_oneB 11 rfl (by kernel_rfl) (fun KK hKK => ?_)
      go_simp
      have FN : Frm (fun _ => False) W7 (W7.alloc (.cells #[.bool (s.mode != 0)] 4)) := Frm.of (World.grownBy_alloc W7 _ none) (fun k e _ => by cases e)
      have hzW8 : W7.heap.size + 1 ≤ (W7.alloc (.cells #[.bool (s.mode != 0)] 4)).heap.size := by simp
      have cTC : (W7.alloc (.cells #[.bool (s.mode != 0)] 4)).cell? ⟨W7.heap.size, 0, none⟩ = some (.bool (s.mode != 0)) := cell_of_row _ _ 0 _ _ _ (heap_alloc_new W7 _)
      refine hKK _ _ (fun h _ => ⟨cell_frm h.1 FN (fun h => h), cell_frm h.2 FN (fun h => h)⟩) ?_
      try simp only [List.getElem_toArray, List.getElem_cons_succ, List.getElem_cons_zero, Act.put, List.setIfInBounds_toArray, List.set_cons_zero, List.set_cons_succ]
      replace hB4 := hB4.frm FN (fun _ _ h => h)
      replace hB5 := hB5.frm FN (fun _ _ h => h)
      replace hA6 := hA6.frm FN (fun _ _ h => h)
      replace F0 := F0.trans FN (fun _ _ h => h.elim)
      clear FN
      obtain ⟨tC, htC⟩ : ∃ tC, tC = W7.heap.size := ⟨_, rfl⟩
      rw [← htC] at cTC hzW8
      simp only [← htC]
      have ltC : W7.heap.size ≤ tC := by omega
      clear htC
      generalize (W7.alloc (.cells #[.bool (s.mode != 0)] 4)) = W8 at *
      refine wpAnyY_oneB 12 rfl (by kernel_rfl) (fun KK hKK => ?_)
      refine step_of_listT rfl ?_
      refine wpList_psR W8 Try.underlying28 Try.inf_bo rfl (by decide) (.bool (s.mode != 0)) rfl rfl _ _ rfl a6 n c6 lo V6 rfl hA6 (by omega) tC rfl cTC (by omega) ?_
      intro g6 d6 W9 hB6 G6 hx6
      show KK _ W9
      have FN : Frm (fun k => (Value.slice a6 n c6).ownBlock = some k) W8 W9 := Frm.of G6 (fun k e _ => e)
      refine hKK _ _ (fun h _ => ⟨cell_frm h.1 FN h6A, cell_frm h.2 FN h6B⟩) ?_
      try simp only [List.getElem_toArray, List.getElem_cons_succ, List.getElem_cons_zero, Act.put, List.setIfInBounds_toArray, List.set_cons_zero, List.set_cons_succ]
      replace hB4 := hB4.frm FN (fun x hx h => cells_ne' hB4 hA6 hx h)
      replace hB5 := hB5.frm FN (fun x hx h => cells_ne' hB5 hA6 hx h)
      replace F0 := F0.trans FN (fun _ _ h => .inr (.inr h))
      clear FN
      refine wpAnyY_oneB 13 rfl (by kernel_rfl) (fun KK hKK => ?_)
      go_simp
      refine hKK _ _ (fun h _ => h) ?_
      try simp only [List.getElem_toArray, List.getElem_cons_succ, List.getElem_cons_zero, Act.put, List.setIfInBounds_toArray, List.set_cons_zero, List.set_cons_succ]
      refine wpAnyY_oneB 14 rfl (by kernel_rfl) (fun KK hKK => ?_)
      go_simp
      refine hKK _ _ (fun h _ => h) ?_
      try simp only [List.getElem_toArray, List.getElem_cons_succ, List.getElem_cons_zero, Act.put, List.setIfInBounds_toArray, List.set_cons_zero, List.set_cons_succ]
      refine wpAnyY_oneB 15 rfl (by kernel_rfl) (fun KK hKK => ?_)
      go_simp
      refine hKK _ _ (fun h _ => h) ?_
      try simp only [List.getElem_toArray, List.getElem_cons_succ, List.getElem_cons_zero, Act.put, List.setIfInBounds_toArray, List.set_cons_zero, List.set_cons_succ]
      refine wpAnyY_doneB (by kernel_rfl) ?_ _
      exact HQ.out g4 d4 g5 d5 g6 d6 W9 _ _ _ _ _ _ _ _ _ _ _ _ _ hB4 hB5 hB6 h45 F0
  · go_simp
    have FN : Frm (fun _ => False) wd (wd.alloc (.cells #[.slice pB nB cB] 33)) := Frm.of (World.grownBy_alloc wd _ none) (fun k e _ => by cases e)
    have hzW1 : wd.heap.size + 1 ≤ (wd.alloc (.cells #[.slice pB nB cB] 33)).heap.size := by simp
    have cTB : (wd.alloc (.cells #[.slice pB nB cB] 33)).cell? ⟨wd.heap.size, 0, none⟩ = some (.slice pB nB cB) := cell_of_row _ _ 0 _ _ _ (heap_alloc_new wd _)
    have SN : (wd.alloc (.cells #[.slice pB nB cB] 33)).cell? ⟨bA, 0, none⟩ = some (.slice pA nA cA) ∧ (wd.alloc (.cells #[.slice pB nB cB] 33)).cell? ⟨bB, 0, none⟩ = some (.slice pB nB cB) := ⟨cell_frm SS.1 FN (fun h => h), cell_frm SS.2 FN (fun h => h)⟩
    refine hKK _ _ (fun _ _ => SN) ?_
    clear hKK SS
    try simp only [List.getElem_toArray, List.getElem_cons_succ, List.getElem_cons_zero, Act.put, List.setIfInBounds_toArray, List.set_cons_zero, List.set_cons_succ]
    have SS := SN
    clear SN
    replace hA4 := hA4.frm FN (fun _ _ h => h)
    replace hA5 := hA5.frm FN (fun _ _ h => h)
    replace hA6 := hA6.frm FN (fun _ _ h => h)
    replace hS := hS.frm FN (fun h => h) (fun _ _ h => h)
    replace F0 := F0.trans FN (fun _ _ h => h.elim)
    clear FN
    obtain ⟨tB, htB⟩ : ∃ tB, tB = wd.heap.size := ⟨_, rfl⟩
    rw [← htB] at cTB hzW1
    simp only [← htB]
    have ltB : wd.heap.size ≤ tB := by omega
    clear htB
    generalize (wd.alloc (.cells #[.slice pB nB cB] 33)) = W1 at *
    refine wpAnyY_oneB 2 rfl (by kernel_rfl) (fun KK hKK => ?_)
    go_simp
    have FN : Frm (fun _ => False) W1 (W1.alloc (.cells #[.slice pA nA cA] 33)) := Frm.of (World.grownBy_alloc W1 _ none) (fun k e _ => by cases e)
    have hzW2 : W1.heap.size + 1 ≤ (W1.alloc (.cells #[.slice pA nA cA] 33)).heap.size := by simp
    have cTA : (W1.alloc (.cells #[.slice pA nA cA] 33)).cell? ⟨W1.heap.size, 0, none⟩ = some (.slice pA nA cA) := cell_of_row _ _ 0 _ _ _ (heap_alloc_new W1 _)
    have SN : (W1.alloc (.cells #[.slice pA nA cA] 33)).cell? ⟨bA, 0, none⟩ = some (.slice pA nA cA) ∧ (W1.alloc (.cells #[.slice pA nA cA] 33)).cell? ⟨bB, 0, none⟩ = some (.slice pB nB cB) := ⟨cell_frm SS.1 FN (fun h => h), cell_frm SS.2 FN (fun h => h)⟩
    refine hKK _ _ (fun _ _ => SN) ?_
    clear hKK SS
    try simp only [List.getElem_toArray, List.getElem_cons_succ, List.getElem_cons_zero, Act.put, List.setIfInBounds_toArray, List.set_cons_zero, List.set_cons_succ]
    have SS := SN
    clear SN
    replace hA4 := hA4.frm FN (fun _ _ h => h)
    replace hA5 := hA5.frm FN (fun _ _ h => h)
    replace hA6 := hA6.frm FN (fun _ _ h => h)
    replace hS := hS.frm FN (fun h => h) (fun _ _ h => h)
    replace F0 := F0.trans FN (fun _ _ h => h.elim)
    replace cTB := cell_frm cTB FN (fun h => h)
    clear FN
    obtain ⟨tA, htA⟩ : ∃ tA, tA = W1.heap.size := ⟨_, rfl⟩
    rw [← htA] at cTA hzW2
    simp only [← htA]
    have ltA : W1.heap.size ≤ tA := by omega
    clear htA
    generalize (W1.alloc (.cells #[.slice pA nA cA] 33)) = W2 at *
    refine wpAnyY_oneB 3 rfl (by kernel_rfl) (fun KK hKK => ?_)
    refine step_of_listT rfl ?_
    refine wpList_psR W2 Try.underlying27 Try.inf_fs rfl (by decide) (.slice pA nA cA) rfl rfl _ _ rfl a4 n c4 lo V4 rfl hA4 (by omega) tA rfl cTA (by omega) ?_
    intro g4 d4 W3 hB4 G4 hx4
    show KK _ W3
    have FN : Frm (fun k => (Value.slice a4 n c4).ownBlock = some k) W2 W3 := Frm.of G4 (fun k e _ => e)
    have hzW3 := FN.size
    have SN : W3.cell? ⟨bA, 0, none⟩ = some (.slice pA nA cA) ∧ W3.cell? ⟨bB, 0, none⟩ = some (.slice pB nB cB) := ⟨cell_frm SS.1 FN (fun h => (b4 _ h).1 rfl), cell_frm SS.2 FN (fun h => (b4 _ h).2.1 rfl)⟩
    refine hKK _ _ (fun _ _ => SN) ?_
    clear hKK SS
    try simp only [List.getElem_toArray, List.getElem_cons_succ, List.getElem_cons_zero, Act.put, List.setIfInBounds_toArray, List.set_cons_zero, List.set_cons_succ]
    have SS := SN
    clear SN
    replace hA5 := hA5.frm FN (fun x hx h => (b4 _ h).2.2.2.2.1 hx)
    replace hA6 := hA6.frm FN (fun x hx h => (b4 _ h).2.2.2.2.2 hx)
    replace hS := hS.frm FN (fun h => (b4 _ h).2.2.1 rfl) (fun x hx h => (b4 _ h).2.2.2.1 hx)
    replace F0 := F0.trans FN (fun _ _ h => .inl h)
    replace cTB := cell_frm cTB FN (fun h => by have := hk4 _ h; omega)
    clear FN G4 hA4
    have hg4 : ∀ x, (Value.slice a5 n c5).ownBlock = some x → g4 ≠ x := fun x hx e => by
      have h5 := hk5 x hx
      rcases hx4 with h | h
      · exact (b4 g4 h).2.2.2.2.1 (by rw [e]; exact hx)
      · omega
    refine wpAnyY_oneB 7 rfl (by kernel_rfl) (fun KK hKK => ?_)
    refine step_of_listT rfl ?_
    refine wpList_psR W3 Try.underlying27 Try.inf_fs rfl (by decide) (.slice pB nB cB) rfl rfl _ _ rfl a5 n c5 lo V5 rfl hA5 (by omega) tB rfl cTB (by omega) ?_
    intro g5 d5 W7 hB5 G5 hx5
    show KK _ W7
    have FN : Frm (fun k => (Value.slice a5 n c5).ownBlock = some k) W3 W7 := Frm.of G5 (fun k e _ => e)
    have hzW7 := FN.size
    have h45 : g4 ≠ g5 := fun e => by
      rcases hx5 with h | h
      · exact hg4 g5 h e
      · have h9 : g4 < W3.heap.size := (row_lt hB4.own rfl).1
        omega
    refine hKK _ _ (fun _ _ => ⟨cell_frm SS.1 FN (fun h => (b5 _ h).1 rfl), cell_frm SS.2 FN (fun h => (b5 _ h).2.1 rfl)⟩) ?_
    clear hKK SS
    try simp only [List.getElem_toArray, List.getElem_cons_succ, List.getElem_cons_zero, Act.put, List.setIfInBounds_toArray, List.set_cons_zero, List.set_cons_succ]
    replace hB4 := hB4.frm FN (fun x hx h => hg4 x h (Option.some.inj hx))
    replace hA6 := hA6.frm FN (fun x hx h => (b5 _ h).2.2.2.2 hx)
    replace hS := hS.frm FN (fun h => (b5 _ h).2.2.1 rfl) (fun x hx h => (b5 _ h).2.2.2.1 hx)
    replace F0 := F0.trans FN (fun _ _ h => .inr (.inl h))
    clear FN G5 hA5 cTB
    refine wpAnyY_oneB 10 rfl (by kernel_rfl) (fun KK hKK => ?_)
    go_simp
    go_at_call 18
    refine (locked_any g r s dv W7 hS).mono ?_
    rintro e w8 ⟨rfl, hw⟩
    have hw := hw.symm
    subst hw
    dsimp only
    refine hKK _ _ (fun h _ => h) ?_
    try simp only [List.getElem_toArray, List.getElem_cons_succ, List.getElem_cons_zero, Act.put, List.setIfInBounds_toArray, List.set_cons_zero, List.set_cons_succ]
    refine wpAnyY_oneB 11 rfl (by kernel_rfl) (fun KK hKK => ?_)
    go_simp
    have FN : Frm (fun _ => False) W7 (W7.alloc (.cells #[.bool (s.mode != 0)] 4)) := Frm.of (World.grownBy_alloc W7 _ none) (fun k e _ => by cases e)
    have hzW8 : W7.heap.size + 1 ≤ (W7.alloc (.cells #[.bool (s.mode != 0)] 4)).heap.size := by simp
    have cTC : (W7.alloc (.cells #[.bool (s.mode != 0)] 4)).cell? ⟨W7.heap.size, 0, none⟩ = some (.bool (s.mode != 0)) := cell_of_row _ _ 0 _ _ _ (heap_alloc_new W7 _)
    refine hKK _ _ (fun h _ => ⟨cell_frm h.1 FN (fun h => h), cell_frm h.2 FN (fun h => h)⟩) ?_
    try simp only [List.getElem_toArray, List.getElem_cons_succ, List.getElem_cons_zero, Act.put, List.setIfInBounds_toArray, List.set_cons_zero, List.set_cons_succ]
    replace hB4 := hB4.frm FN (fun _ _ h => h)
    replace hB5 := hB5.frm FN (fun _ _ h => h)
    replace hA6 := hA6.frm FN (fun _ _ h => h)
    replace F0 := F0.trans FN (fun _ _ h => h.elim)
    clear FN
    obtain ⟨tC, htC⟩ : ∃ tC, tC = W7.heap.size := ⟨_, rfl⟩
    rw [← htC] at cTC hzW8
    simp only [← htC]
    have ltC : W7.heap.size ≤ tC := by omega
    clear htC
    generalize (W7.alloc (.cells #[.bool (s.mode != 0)] 4)) = W8 at *
    refine wpAnyY_oneB 12 rfl (by kernel_rfl) (fun KK hKK => ?_)
    refine step_of_listT rfl ?_
    refine wpList_psR W8 Try.underlying28 Try.inf_bo rfl (by decide) (.bool (s.mode != 0)) rfl rfl _ _ rfl a6 n c6 lo V6 rfl hA6 (by omega) tC rfl cTC (by omega) ?_
    intro g6 d6 W9 hB6 G6 hx6
    show KK _ W9
    have FN : Frm (fun k => (Value.slice a6 n c6).ownBlock = some k) W8 W9 := Frm.of G6 (fun k e _ => e)
    refine hKK _ _ (fun h _ => ⟨cell_frm h.1 FN h6A, cell_frm h.2 FN h6B⟩) ?_
    try simp only [List.getElem_toArray, List.getElem_cons_succ, List.getElem_cons_zero, Act.put, List.setIfInBounds_toArray, List.set_cons_zero, List.set_cons_succ]
    replace hB4 := hB4.frm FN (fun x hx h => cells_ne' hB4 hA6 hx h)
    replace hB5 := hB5.frm FN (fun x hx h => cells_ne' hB5 hA6 hx h)
    replace F0 := F0.trans FN (fun _ _ h => .inr (.inr h))
    clear FN
    refine wpAnyY_oneB 13 rfl (by kernel_rfl) (fun KK hKK => ?_)
    go_simp
    refine hKK _ _ (fun h _ => h) ?_
    try simp only [List.getElem_toArray, List.getElem_cons_succ, List.getElem_cons_zero, Act.put, List.setIfInBounds_toArray, List.set_cons_zero, List.set_cons_succ]
    refine wpAnyY_oneB 14 rfl (by kernel_rfl) (fun KK hKK => ?_)
    go_simp
    refine hKK _ _ (fun h _ => h) ?_
    try simp only [List.getElem_toArray, List.getElem_cons_succ, List.getElem_cons_zero, Act.put, List.setIfInBounds_toArray, List.set_cons_zero, List.set_cons_succ]
    refine wpAnyY_oneB 15 rfl (by kernel_rfl) (fun KK hKK => ?_)
    go_simp
    refine hKK _ _ (fun h _ => h) ?_
    try simp only [List.getElem_toArray, List.getElem_cons_succ, List.getElem_cons_zero, Act.put, List.setIfInBounds_toArray, List.set_cons_zero, List.set_cons_succ]
    refine wpAnyY_doneB (by kernel_rfl) ?_ _
    exact HQ.out g4 d4 g5 d5 g6 d6 W9 _ _ _ _ _ _ _ _ _ _ _ _ _ hB4 hB5 hB6 h45 F0
end
end Go.Proofs.Ythdjpbfknbafgaa
