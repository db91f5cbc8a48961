import Derived.Test.YtnnoeeakkpaocaaKxOw
namespace Go.Proofs.Ytnnoeeakkpaocaa
open Go.RowKit
set_option maxRecDepth 100000
set_option linter.unusedVariables false
set_option linter.unusedSimpArgs false

theorem BxS.cell13 {w : World} {g : Nat} {t : TypeId} {a0 a1 a2 a3 a4 a5 a6 a7 a8 a9 aa ab ac : Value} (k : BxS w g t #[a0, a1, a2, a3, a4, a5, a6, a7, a8, a9, aa, ab, ac]) : w.cell? ⟨g, 0, none⟩ = some a0 ∧ w.cell? ⟨g, 1, none⟩ = some a1 ∧ w.cell? ⟨g, 2, none⟩ = some a2 ∧ w.cell? ⟨g, 3, none⟩ = some a3 ∧ w.cell? ⟨g, 4, none⟩ = some a4 ∧ w.cell? ⟨g, 5, none⟩ = some a5 ∧ w.cell? ⟨g, 6, none⟩ = some a6 ∧ w.cell? ⟨g, 7, none⟩ = some a7 ∧ w.cell? ⟨g, 8, none⟩ = some a8 ∧ w.cell? ⟨g, 9, none⟩ = some a9 ∧ w.cell? ⟨g, 10, none⟩ = some aa ∧ w.cell? ⟨g, 11, none⟩ = some ab ∧ w.cell? ⟨g, 12, none⟩ = some ac := by
  simp [World.cell?, show w.heap[g]? = _ from k]
/-- rows that are not written lie as they lay -/
theorem Ans.fz {w w' : World} {p : Nat → Prop} {lo n c : Nat} {a : Option Addr} {L : List Nat} (h : Ans w lo a n c L) (hF : Fz p w w') (hn : ∀ x, (Value.slice a n c).ownBlock = some x → ¬ p x) : Ans w' lo a n c L := by
  refine ⟨⟨h.own.1, ?_⟩, h.byte, h.new⟩
  rcases h.own.2 with h1 | ⟨g, cap, cur, h1, h2, hh, h3⟩
  · exact .inl h1
  · exact .inr ⟨g, cap, cur, h1, h2, (hF.block g (Array.getElem?_eq_some_iff.1 hh).1 (hn g (by rw [h1]; rfl))).trans hh, h3⟩
theorem OwR.fz {w w' : World} {p : Nat → Prop} {lo n c : Nat} {a : Option Addr} {rs : List Rw} (h : OwR w lo a n c rs) (hF : Fz p w w') (hn : ∀ x, Ofr (.slice a n c) rs x → ¬ p x) : OwR w' lo a n c rs := by
  refine ⟨⟨h.own.1, ?_⟩, h.len, h.new, fun r hr => (h.each r hr).fz hF (fun x e => hn x (.inr ⟨r, hr, e⟩)), h.apart⟩
  rcases h.own.2 with h1 | ⟨g, cap, cur, h1, h2, hh, h3⟩
  · exact .inl h1
  · exact .inr ⟨g, cap, cur, h1, h2, (hF.block g (Array.getElem?_eq_some_iff.1 hh).1 (hn g (.inl (by rw [h1]; rfl)))).trans hh, h3⟩
theorem OwR.box {w : World} {lo n c g : Nat} {a : Option Addr} {rs : List Rw} {t : TypeId} {cs : Array Value} (h : OwR w lo a n c rs) (b : BxS w g t cs) (ht : 22 ≠ t) : (Value.slice a n c).ownBlock ≠ some g := by
  intro e
  rcases h.own.2 with ⟨h1, _⟩ | ⟨x, cap, cur, h1, _, hh, _⟩
  · rw [h1] at e; simp [Value.ownBlock] at e
  · rw [h1] at e
    have e1 : x = g := Option.some.inj e
    subst e1
    have e2 : some (Obj.cells cur 22) = some (.cells cs t) := hh.symm.trans b
    injection e2 with e3
    injection e3 with _ e4
    exact ht e4
theorem Ans.box {w : World} {lo n c g : Nat} {a : Option Addr} {L : List Nat} {t : TypeId} {cs : Array Value} (h : Ans w lo a n c L) (b : BxS w g t cs) (ht : 5 ≠ t) : (Value.slice a n c).ownBlock ≠ some g := by
  intro e
  rcases h.own.2 with ⟨h1, _⟩ | ⟨x, cap, cur, h1, _, hh, _⟩
  · rw [h1] at e; simp [Value.ownBlock] at e
  · rw [h1] at e
    have e1 : x = g := Option.some.inj e
    subst e1
    have e2 : some (Obj.cells cur 5) = some (.cells cs t) := hh.symm.trans b
    injection e2 with e3
    injection e3 with _ e4
    exact ht e4
set_option maxHeartbeats 16000000 in
/-- 'send': an order goes up -/
theorem send_any (g : Nat) (cr : Nat) (nx ah : Int) (sa : Option Addr) (sn sc : Nat) (qa : Option Addr) (qn qc : Nat) (ti pa tr li si pu hl : Int) (ua : Option Addr) (un uc lo : Nat) (us : List Rw) (c0 : Int) (bp co : Bool) (sq : Nat) (a : Option Addr) (n c : Nat) (D : List Nat) (w : World)
    (hB : BxS w g 96 #[.int .i64 (cr : Int), .int .i64 nx, .int .i64 ah, .slice sa sn sc, .slice qa qn qc, .int .i64 ti, .int .i64 pa, .int .i64 tr, .int .i64 li, .int .i64 si, .int .i64 pu, .int .i64 hl, .slice ua un uc]) (hU : OwR w lo ua un uc us) (hlo : lo ≤ w.heap.size) (hun : un ≤ 10000) (hR : Rd w a n c D) (hcr : cr < 1024) (hsq : sq < 256) (h1 : 1 ≤ n) (h2 : n ≤ 1017) :
    Calls Try.prog 76 #[.pointer (some ⟨g, 0, none⟩), .agg (orA c0 bp co sq a n c)] w fun e w' => ∃ ua' uc' r, e = .returned (.tuple #[]) ∧ BxS w' g 96 #[.int .i64 (cr : Int), .int .i64 nx, .int .i64 ah, .slice sa sn sc, .slice qa qn qc, .int .i64 ti, .int .i64 pa, .int .i64 tr, .int .i64 li, .int .i64 si, .int .i64 pu, .int .i64 hl, .slice ua' (un + 1) uc'] ∧ OwR w' lo ua' (un + 1) uc' (us ++ [r]) ∧ r.D = orL cr bp co sq D ∧ Fz (fun i => i = g ∨ (Value.slice ua un uc).ownBlock = some i) w w' := by
  obtain ⟨i0, hi, hz0, hz1, hz2⟩ := info_parts Try.info_rw
  have hO := fun (wz : World) hz => obytes_any cr bp co sq a n c D wz hz hcr hsq h1 h2
  have b0 := BxS.new w 24 #[.int .i64 c0, .bool bp, .bool co, .int .i64 (sq : Int), .slice a n c]
  have g0 := World.grownBy_alloc w (.cells #[.int .i64 c0, .bool bp, .bool co, .int .i64 (sq : Int), .slice a n c] 24) none
  unfold orA at hO ⊢
  generalize hw0 : w.alloc (.cells #[.int .i64 c0, .bool bp, .bool co, .int .i64 (sq : Int), .slice a n c] 24) = w0 at b0 g0
  have B0 := hB.keep g0 (by simp)
  have lt0 := hB.lt
  obtain ⟨h0, h1, h2, h3, h4, h5, h6, h7, h8, h9, h10, h11, h12⟩ := B0.cell13
  have t1 : True := trivial
  go_enter Try.func76, Try.ntmps76
  go_wp2_with (first
    | (have _t := t1; refine wpList_stC _ rfl _ _ _ rfl w.heap.size 0 24 #[.int .i64 c0, .bool bp, .bool co, .int .i64 (sq : Int), .slice a n c] #[.int .i64 (cr : Int), .bool bp, .bool co, .int .i64 (sq : Int), .slice a n c] (.int .i64 (cr : Int)) rfl rfl b0 (stc_int _ _ _) (by simp) rfl ?_; clear t1; intro w1 b1 g1))
  have G1 := grown_far g0 g1 (fun q e => by cases e; exact Nat.le_refl _)
  have B1 := B0.keep g1 (by simp; omega)
  have U1 := hU.keep G1
  have R1 := hR.keep G1
  clear h0 h1 h2 h3 h4 h5 h6 h7 h8 h9 h10 h11 h12
  obtain ⟨h0, h1, h2, h3, h4, h5, h6, h7, h8, h9, h10, h11, h12⟩ := B1.cell13
  obtain ⟨o0, o1, o2, o3, o4⟩ := b1.cell5
  have hs1 := G1.size
  have ub := U1.box B1 (by decide)
  go_region_law (first
    | (go_simp; go_at_call 50; refine (hO _ (R1.keep (grown_drew w1 none))).mono ?_; rintro e w2 ⟨a2, c2, rfl, hA2, g2⟩; have g12 := grown_trans (grown_drew w1 none) g2; have B2 := B1.keep g12 (by simp); have U2 := U1.keep g12; obtain ⟨k0, k1, k2, k3, k4, k5, k6, k7, k8, k9, k10, k11, k12⟩ := B2.cell13; have gA := World.grownBy_alloc w2 (.cells #[.slice a2 (n + 7) c2] 22) none; have m12 := (B2.keep gA (by simp)).cell13.2.2.2.2.2.2.2.2.2.2.2.2)
    | (refine step_apS _ rfl _ _ 48 22 i0 zr 1 24 Try.underlying48 hi hz0 hz1 hz2 rfl (by decide) rfl (.slice ua un uc) un (flatR us) rfl (U2.own.alloc _) ⟨w2.heap.size, 0, none⟩ 1 1 [.slice a2 (n + 7) c2] rfl rfl (one_row w2 _) (by simp [Value.oneCell']) (by decide) (by unfold maxLen; omega) (by omega) ?_; intro gx cx w3 hgx g3 hown3; have B3 := (B2.keep gA (by simp)).keep g3 (fun e => ub e.symm); have f3 := B3.free 12; have p12 := B3.cell13.2.2.2.2.2.2.2.2.2.2.2.2))
  all_goals
    have BS : BxS _ g 96 #[.int .i64 (cr : Int), .int .i64 nx, .int .i64 ah, .slice sa sn sc, .slice qa qn qc, .int .i64 ti, .int .i64 pa, .int .i64 tr, .int .i64 li, .int .i64 si, .int .i64 pu, .int .i64 hl, .slice (some ⟨gx, 0, none⟩) (un + 1) cx] := B3.set 12 (.slice (some ⟨gx, 0, none⟩) (un + 1) cx)
    have gS := grown_set w3 g 12 (.slice (some ⟨gx, 0, none⟩) (un + 1) cx)
    have hz : w1.heap.size ≤ w2.heap.size := g12.size
    have hUA := U2.keep gA
    have hrA := (hA2.wide (show lo ≤ w1.drew.heap.size from Nat.le_trans hlo hs1)).keep gA
    have hap : ∀ q, q ∈ us → ∀ y, q.v.ownBlock = some y → (Rw.mk a2 (n + 7) c2 (orL cr bp co sq D)).v.ownBlock ≠ some y := by
      intro q hq y hy e
      have h1 : w1.heap.size ≤ y := hA2.new y e
      have h2 := U1.bef.2 q hq y hy
      omega
    have hpu := OwR.push (r := ⟨a2, n + 7, c2, orL cr bp co sq D⟩) hUA hrA hap g3 hown3 (by
      rcases hgx with h | h
      · exact .inl h
      · exact .inr (by have := gA.size; omega))
    have FS : Fz (fun i => i = g) w3 (w3.setCell ⟨g, 12, none⟩ (.slice (some ⟨gx, 0, none⟩) (un + 1) cx)) := (Fz.refl _ w3).step gS (fun q e _ => by cases e; rfl)
    have hfin := hpu.fz FS (fun x hx e => by
      subst e
      rcases hx with h | ⟨r, hr, h⟩
      · exact hpu.box B3 (by decide) h
      · exact (hpu.each r hr).box B3 (by decide) h)
    have FF : Fz (fun i => i = g ∨ (Value.slice ua un uc).ownBlock = some i) w (w3.setCell ⟨g, 12, none⟩ (.slice (some ⟨gx, 0, none⟩) (un + 1) cx)) :=
      ((((Fz.refl _ w).step G1 (fun q e _ => by cases e)).step (grown_trans g12 gA) (fun q e _ => by cases e)).step g3 (fun q e _ => .inr e)).step gS (fun q e _ => by cases e; exact .inl rfl)
    go_wp2
    go_end0
    exact ⟨_, _, _, rfl, BS, hfin, rfl, FF⟩

theorem stc_err (g i : Nat) (n : Int) (w : World) (hc : ∃ u, w.cell? ⟨g, i, none⟩ = some u) (hf : w.frozen? ⟨g, i, none⟩ = false) : (Instr.storeAt 26 (.pointer (some ⟨g, i, none⟩)) (.int .i64 n)).run Try.prog w = .ok () (w.setCell ⟨g, i, none⟩ (.int .i64 n)) := by
  obtain ⟨u, hc⟩ := hc
  simp [go_sem, hc, hf]
theorem rd_nought (w : World) : Rd (w.alloc (.cells #[.int .u8 0] 5)) (some ⟨w.heap.size, 0, none⟩) 1 1 [0] := by
  have hB : Blk (w.alloc (.cells #[.int .u8 ((0 : Nat) : Int)] 5)) w.heap.size [0] := heap_alloc_new w _
  exact hB.rd (by intro x hx; simp at hx; omega) rfl (by decide)
set_option maxHeartbeats 8000000 in
/-- what Free does to a hand at work: nothing -/
theorem free1_no (g : Nat) (cr : Nat) (nx ah : Int) (sa : Option Addr) (sn sc : Nat) (qa : Option Addr) (qn qc : Nat) (ti pa tr li si pu hl : Int) (w : World) (hB : BxS w g 96 #[.int .i64 (cr : Int), .int .i64 nx, .int .i64 ah, .slice sa sn sc, .slice qa qn qc, .int .i64 ti, .int .i64 pa, .int .i64 tr, .int .i64 li, .int .i64 si, .int .i64 pu, .int .i64 hl, .slice none 0 0]) (h1 : hl ≠ 15) (h2 : hl ≠ 19) :
    Calls Try.prog 75 #[.pointer (some ⟨g, 0, none⟩)] w fun e w' => e = .returned (.int .i64 6) ∧ w' = w := by
  obtain ⟨k0, k1, k2, k3, k4, k5, k6, k7, k8, k9, k10, k11, k12⟩ := hB.cell13
  have l1 : ((hl != 15) : Bool) = true := by simp; omega
  have l2 : ((hl != 19) : Bool) = true := by simp; omega
  go_enter Try.func75, Try.ntmps75
  go_wp2
  go_ret
  exact ⟨rfl, rfl⟩
set_option maxHeartbeats 8000000 in
/-- .. and where it goes on -/
theorem free1_ok (g : Nat) (cr : Nat) (nx ah : Int) (sa : Option Addr) (sn sc : Nat) (qa : Option Addr) (qn qc : Nat) (ti pa tr li si pu hl : Int) (w : World) (hB : BxS w g 96 #[.int .i64 (cr : Int), .int .i64 nx, .int .i64 ah, .slice sa sn sc, .slice qa qn qc, .int .i64 ti, .int .i64 pa, .int .i64 tr, .int .i64 li, .int .i64 si, .int .i64 pu, .int .i64 hl, .slice none 0 0]) (h1 : hl = 15 ∨ hl = 19) (hcr : cr < 1024) :
    Calls Try.prog 75 #[.pointer (some ⟨g, 0, none⟩)] w fun e w' => ∃ ua uc r, e = .returned (.int .i64 0) ∧ BxS w' g 96 #[.int .i64 (cr : Int), .int .i64 nx, .int .i64 ah, .slice sa sn sc, .slice qa qn qc, .int .i64 0, .int .i64 pa, .int .i64 0, .int .i64 li, .int .i64 pu, .int .i64 pu, .int .i64 0, .slice ua 1 uc] ∧ OwR w' w.heap.size ua 1 uc [r] ∧ r.D = orL cr true true 0 [0] ∧ Fz (fun i => i = g) w w' := by
  obtain ⟨k0, k1, k2, k3, k4, k5, k6, k7, k8, k9, k10, k11, k12⟩ := hB.cell13
  have B0 := hB
  have s0 : True := trivial
  have lt := hB.lt
  have hs := fun (bz : Nat) (wz : World) hb hu hl' (hr : Rd wz (some ⟨bz, 0, none⟩) 1 1 [0]) => send_any g cr nx ah sa sn sc qa qn qc 0 pa 0 li pu pu 0 none 0 0 w.heap.size [] 0 true true 0 (some ⟨bz, 0, none⟩) 1 1 [0] wz hb hu hl' (by decide) hr hcr (by decide) (by decide) (by decide)
  unfold orA at hs
  rcases h1 with rfl | rfl
  all_goals
    go_enter Try.func75, Try.ntmps75
    go_wp2_with (first
      | (have _t := s0; refine wpList_stC _ rfl _ _ _ rfl g 11 96 _ #[.int .i64 (cr : Int), .int .i64 nx, .int .i64 ah, .slice sa sn sc, .slice qa qn qc, .int .i64 ti, .int .i64 pa, .int .i64 tr, .int .i64 li, .int .i64 si, .int .i64 pu, .int .i64 0, .slice none 0 0] (.int .i64 0) rfl rfl B0 (stc_err _ _ _) (by simp) rfl ?_; clear s0; intro v1 B1 gS1; clear k0 k1 k2 k3 k4 k5 k6 k7 k8 k9 k10 k11 k12; obtain ⟨k0, k1, k2, k3, k4, k5, k6, k7, k8, k9, k10, k11, k12⟩ := B1.cell13; have U1 := gS1; have s1 : True := trivial)
      | (have _t := s1; refine wpList_stC _ rfl _ _ _ rfl g 5 96 _ #[.int .i64 (cr : Int), .int .i64 nx, .int .i64 ah, .slice sa sn sc, .slice qa qn qc, .int .i64 0, .int .i64 pa, .int .i64 tr, .int .i64 li, .int .i64 si, .int .i64 pu, .int .i64 0, .slice none 0 0] (.int .i64 0) rfl rfl B1 (stc_int _ _ _) (by simp) rfl ?_; clear s1; intro v2 B2 gS2; clear k0 k1 k2 k3 k4 k5 k6 k7 k8 k9 k10 k11 k12; obtain ⟨k0, k1, k2, k3, k4, k5, k6, k7, k8, k9, k10, k11, k12⟩ := B2.cell13; have U2 := grown_trans U1 gS2; have s2 : True := trivial)
      | (have _t := s2; refine wpList_stC _ rfl _ _ _ rfl g 7 96 _ #[.int .i64 (cr : Int), .int .i64 nx, .int .i64 ah, .slice sa sn sc, .slice qa qn qc, .int .i64 0, .int .i64 pa, .int .i64 0, .int .i64 li, .int .i64 si, .int .i64 pu, .int .i64 0, .slice none 0 0] (.int .i64 0) rfl rfl B2 (stc_int _ _ _) (by simp) rfl ?_; clear s2; intro v3 B3 gS3; clear k0 k1 k2 k3 k4 k5 k6 k7 k8 k9 k10 k11 k12; obtain ⟨k0, k1, k2, k3, k4, k5, k6, k7, k8, k9, k10, k11, k12⟩ := B3.cell13; have U3 := grown_trans U2 gS3; have s3 : True := trivial)
      | (have _t := s3; refine wpList_stC _ rfl _ _ _ rfl g 9 96 _ #[.int .i64 (cr : Int), .int .i64 nx, .int .i64 ah, .slice sa sn sc, .slice qa qn qc, .int .i64 0, .int .i64 pa, .int .i64 0, .int .i64 li, .int .i64 pu, .int .i64 pu, .int .i64 0, .slice none 0 0] (.int .i64 pu) rfl rfl B3 (stc_int _ _ _) (by simp) rfl ?_; clear s3; intro v4 B4 gS4; clear k0 k1 k2 k3 k4 k5 k6 k7 k8 k9 k10 k11 k12; obtain ⟨k0, k1, k2, k3, k4, k5, k6, k7, k8, k9, k10, k11, k12⟩ := B4.cell13; have U4 := grown_trans U3 gS4; have gA := World.grownBy_alloc v4 (.cells #[.int .u8 0] 5) none; have hRA := rd_nought v4; have s4 : True := trivial)
      | (go_at_call 76; refine (hs _ _ (B4.keep gA (by simp)) (OwR.nil _ _) (by have := U4.size; simp; omega) hRA).mono ?_; rintro e w6 ⟨ua, uc, r, rfl, B6, O6, hr6, F6⟩))
    go_ret
    have F4 : Fz (fun i => i = g) w v4 := (Fz.refl _ w).step U4 (fun q e _ => by cases e; rfl)
    exact ⟨ua, uc, r, rfl, B6, O6, hr6, (F4.step gA (fun q e _ => by cases e)).trans F6 (fun i _ h => by rcases h with h | h; exact h; simp [Value.ownBlock] at h)⟩

theorem ofr_lo {w : World} {lo : Nat} {a : Option Addr} {n c : Nat} {rs : List Rw} (h : OwR w lo a n c rs) {x : Nat} (hx : Ofr (.slice a n c) rs x) : lo ≤ x := by
  rcases hx with h1 | ⟨r, hr, h1⟩
  · exact h.new x h1
  · exact (h.each r hr).new x h1
theorem ofr_hi {hi : Nat} {v : Value} {rs : List Rw} (h : Bef hi v rs) {x : Nat} (hx : Ofr v rs x) : x < hi := by
  rcases hx with h1 | ⟨r, hr, h1⟩
  · exact h.1 x h1
  · exact h.2 r hr x h1
theorem BxS.fz {w w' : World} {p : Nat → Prop} {g : Nat} {t : TypeId} {cs : Array Value} (h : BxS w g t cs) (hF : Fz p w w') (hn : ¬ p g) : BxS w' g t cs := (hF.block g h.lt hn).trans h
theorem ofr_box {w : World} {lo : Nat} {a : Option Addr} {n c g : Nat} {rs : List Rw} {t : TypeId} {cs : Array Value} (h : OwR w lo a n c rs) (b : BxS w g t cs) (h1 : 22 ≠ t) (h2 : 5 ≠ t) {x : Nat} (hx : Ofr (.slice a n c) rs x) : ¬ x = g := by
  intro e
  subst e
  rcases hx with h3 | ⟨r, hr, h3⟩
  · exact h.box b h1 h3
  · exact (h.each r hr).box b h2 h3
/-- twelve cells of a box are written -/
def set12 (w : World) (g : Nat) (v0 v1 v2 v3 v4 v5 v6 v7 v8 v9 v10 v11 : Value) : World := (((((((((((w.setCell ⟨g, 0, none⟩ v0).setCell ⟨g, 1, none⟩ v1).setCell ⟨g, 2, none⟩ v2).setCell ⟨g, 3, none⟩ v3).setCell ⟨g, 4, none⟩ v4).setCell ⟨g, 5, none⟩ v5).setCell ⟨g, 6, none⟩ v6).setCell ⟨g, 7, none⟩ v7).setCell ⟨g, 8, none⟩ v8).setCell ⟨g, 9, none⟩ v9).setCell ⟨g, 10, none⟩ v10).setCell ⟨g, 11, none⟩ v11
theorem set12_grown (w : World) (g : Nat) (v0 v1 v2 v3 v4 v5 v6 v7 v8 v9 v10 v11 : Value) : w.grownBy (set12 w g v0 v1 v2 v3 v4 v5 v6 v7 v8 v9 v10 v11) (some g) := grown_trans (grown_trans (grown_trans (grown_trans (grown_trans (grown_trans (grown_trans (grown_trans (grown_trans (grown_trans (grown_trans (grown_set w g 0 v0) (grown_set (w.setCell ⟨g, 0, none⟩ v0) g 1 v1)) (grown_set ((w.setCell ⟨g, 0, none⟩ v0).setCell ⟨g, 1, none⟩ v1) g 2 v2)) (grown_set (((w.setCell ⟨g, 0, none⟩ v0).setCell ⟨g, 1, none⟩ v1).setCell ⟨g, 2, none⟩ v2) g 3 v3)) (grown_set ((((w.setCell ⟨g, 0, none⟩ v0).setCell ⟨g, 1, none⟩ v1).setCell ⟨g, 2, none⟩ v2).setCell ⟨g, 3, none⟩ v3) g 4 v4)) (grown_set (((((w.setCell ⟨g, 0, none⟩ v0).setCell ⟨g, 1, none⟩ v1).setCell ⟨g, 2, none⟩ v2).setCell ⟨g, 3, none⟩ v3).setCell ⟨g, 4, none⟩ v4) g 5 v5)) (grown_set ((((((w.setCell ⟨g, 0, none⟩ v0).setCell ⟨g, 1, none⟩ v1).setCell ⟨g, 2, none⟩ v2).setCell ⟨g, 3, none⟩ v3).setCell ⟨g, 4, none⟩ v4).setCell ⟨g, 5, none⟩ v5) g 6 v6)) (grown_set (((((((w.setCell ⟨g, 0, none⟩ v0).setCell ⟨g, 1, none⟩ v1).setCell ⟨g, 2, none⟩ v2).setCell ⟨g, 3, none⟩ v3).setCell ⟨g, 4, none⟩ v4).setCell ⟨g, 5, none⟩ v5).setCell ⟨g, 6, none⟩ v6) g 7 v7)) (grown_set ((((((((w.setCell ⟨g, 0, none⟩ v0).setCell ⟨g, 1, none⟩ v1).setCell ⟨g, 2, none⟩ v2).setCell ⟨g, 3, none⟩ v3).setCell ⟨g, 4, none⟩ v4).setCell ⟨g, 5, none⟩ v5).setCell ⟨g, 6, none⟩ v6).setCell ⟨g, 7, none⟩ v7) g 8 v8)) (grown_set (((((((((w.setCell ⟨g, 0, none⟩ v0).setCell ⟨g, 1, none⟩ v1).setCell ⟨g, 2, none⟩ v2).setCell ⟨g, 3, none⟩ v3).setCell ⟨g, 4, none⟩ v4).setCell ⟨g, 5, none⟩ v5).setCell ⟨g, 6, none⟩ v6).setCell ⟨g, 7, none⟩ v7).setCell ⟨g, 8, none⟩ v8) g 9 v9)) (grown_set ((((((((((w.setCell ⟨g, 0, none⟩ v0).setCell ⟨g, 1, none⟩ v1).setCell ⟨g, 2, none⟩ v2).setCell ⟨g, 3, none⟩ v3).setCell ⟨g, 4, none⟩ v4).setCell ⟨g, 5, none⟩ v5).setCell ⟨g, 6, none⟩ v6).setCell ⟨g, 7, none⟩ v7).setCell ⟨g, 8, none⟩ v8).setCell ⟨g, 9, none⟩ v9) g 10 v10)) (grown_set (((((((((((w.setCell ⟨g, 0, none⟩ v0).setCell ⟨g, 1, none⟩ v1).setCell ⟨g, 2, none⟩ v2).setCell ⟨g, 3, none⟩ v3).setCell ⟨g, 4, none⟩ v4).setCell ⟨g, 5, none⟩ v5).setCell ⟨g, 6, none⟩ v6).setCell ⟨g, 7, none⟩ v7).setCell ⟨g, 8, none⟩ v8).setCell ⟨g, 9, none⟩ v9).setCell ⟨g, 10, none⟩ v10) g 11 v11)
theorem set12_box {w : World} {g : Nat} {t : TypeId} {a0 a1 a2 a3 a4 a5 a6 a7 a8 a9 a10 a11 : Value} (h : BxS w g t #[a0, a1, a2, a3, a4, a5, a6, a7, a8, a9, a10, a11]) (v0 v1 v2 v3 v4 v5 v6 v7 v8 v9 v10 v11 : Value) : BxS (set12 w g v0 v1 v2 v3 v4 v5 v6 v7 v8 v9 v10 v11) g t #[v0, v1, v2, v3, v4, v5, v6, v7, v8, v9, v10, v11] := by
  unfold set12
  have h0 : BxS (w.setCell ⟨g, 0, none⟩ v0) g t #[v0, a1, a2, a3, a4, a5, a6, a7, a8, a9, a10, a11] := h.set 0 v0
  have h1 : BxS ((w.setCell ⟨g, 0, none⟩ v0).setCell ⟨g, 1, none⟩ v1) g t #[v0, v1, a2, a3, a4, a5, a6, a7, a8, a9, a10, a11] := h0.set 1 v1
  have h2 : BxS (((w.setCell ⟨g, 0, none⟩ v0).setCell ⟨g, 1, none⟩ v1).setCell ⟨g, 2, none⟩ v2) g t #[v0, v1, v2, a3, a4, a5, a6, a7, a8, a9, a10, a11] := h1.set 2 v2
  have h3 : BxS ((((w.setCell ⟨g, 0, none⟩ v0).setCell ⟨g, 1, none⟩ v1).setCell ⟨g, 2, none⟩ v2).setCell ⟨g, 3, none⟩ v3) g t #[v0, v1, v2, v3, a4, a5, a6, a7, a8, a9, a10, a11] := h2.set 3 v3
  have h4 : BxS (((((w.setCell ⟨g, 0, none⟩ v0).setCell ⟨g, 1, none⟩ v1).setCell ⟨g, 2, none⟩ v2).setCell ⟨g, 3, none⟩ v3).setCell ⟨g, 4, none⟩ v4) g t #[v0, v1, v2, v3, v4, a5, a6, a7, a8, a9, a10, a11] := h3.set 4 v4
  have h5 : BxS ((((((w.setCell ⟨g, 0, none⟩ v0).setCell ⟨g, 1, none⟩ v1).setCell ⟨g, 2, none⟩ v2).setCell ⟨g, 3, none⟩ v3).setCell ⟨g, 4, none⟩ v4).setCell ⟨g, 5, none⟩ v5) g t #[v0, v1, v2, v3, v4, v5, a6, a7, a8, a9, a10, a11] := h4.set 5 v5
  have h6 : BxS (((((((w.setCell ⟨g, 0, none⟩ v0).setCell ⟨g, 1, none⟩ v1).setCell ⟨g, 2, none⟩ v2).setCell ⟨g, 3, none⟩ v3).setCell ⟨g, 4, none⟩ v4).setCell ⟨g, 5, none⟩ v5).setCell ⟨g, 6, none⟩ v6) g t #[v0, v1, v2, v3, v4, v5, v6, a7, a8, a9, a10, a11] := h5.set 6 v6
  have h7 : BxS ((((((((w.setCell ⟨g, 0, none⟩ v0).setCell ⟨g, 1, none⟩ v1).setCell ⟨g, 2, none⟩ v2).setCell ⟨g, 3, none⟩ v3).setCell ⟨g, 4, none⟩ v4).setCell ⟨g, 5, none⟩ v5).setCell ⟨g, 6, none⟩ v6).setCell ⟨g, 7, none⟩ v7) g t #[v0, v1, v2, v3, v4, v5, v6, v7, a8, a9, a10, a11] := h6.set 7 v7
  have h8 : BxS (((((((((w.setCell ⟨g, 0, none⟩ v0).setCell ⟨g, 1, none⟩ v1).setCell ⟨g, 2, none⟩ v2).setCell ⟨g, 3, none⟩ v3).setCell ⟨g, 4, none⟩ v4).setCell ⟨g, 5, none⟩ v5).setCell ⟨g, 6, none⟩ v6).setCell ⟨g, 7, none⟩ v7).setCell ⟨g, 8, none⟩ v8) g t #[v0, v1, v2, v3, v4, v5, v6, v7, v8, a9, a10, a11] := h7.set 8 v8
  have h9 : BxS ((((((((((w.setCell ⟨g, 0, none⟩ v0).setCell ⟨g, 1, none⟩ v1).setCell ⟨g, 2, none⟩ v2).setCell ⟨g, 3, none⟩ v3).setCell ⟨g, 4, none⟩ v4).setCell ⟨g, 5, none⟩ v5).setCell ⟨g, 6, none⟩ v6).setCell ⟨g, 7, none⟩ v7).setCell ⟨g, 8, none⟩ v8).setCell ⟨g, 9, none⟩ v9) g t #[v0, v1, v2, v3, v4, v5, v6, v7, v8, v9, a10, a11] := h8.set 9 v9
  have h10 : BxS (((((((((((w.setCell ⟨g, 0, none⟩ v0).setCell ⟨g, 1, none⟩ v1).setCell ⟨g, 2, none⟩ v2).setCell ⟨g, 3, none⟩ v3).setCell ⟨g, 4, none⟩ v4).setCell ⟨g, 5, none⟩ v5).setCell ⟨g, 6, none⟩ v6).setCell ⟨g, 7, none⟩ v7).setCell ⟨g, 8, none⟩ v8).setCell ⟨g, 9, none⟩ v9).setCell ⟨g, 10, none⟩ v10) g t #[v0, v1, v2, v3, v4, v5, v6, v7, v8, v9, v10, a11] := h9.set 10 v10
  have h11 : BxS ((((((((((((w.setCell ⟨g, 0, none⟩ v0).setCell ⟨g, 1, none⟩ v1).setCell ⟨g, 2, none⟩ v2).setCell ⟨g, 3, none⟩ v3).setCell ⟨g, 4, none⟩ v4).setCell ⟨g, 5, none⟩ v5).setCell ⟨g, 6, none⟩ v6).setCell ⟨g, 7, none⟩ v7).setCell ⟨g, 8, none⟩ v8).setCell ⟨g, 9, none⟩ v9).setCell ⟨g, 10, none⟩ v10).setCell ⟨g, 11, none⟩ v11) g t #[v0, v1, v2, v3, v4, v5, v6, v7, v8, v9, v10, v11] := h10.set 11 v11
  exact h11
set_option maxHeartbeats 8000000 in
theorem apart_bad (cv : Value) (cr nx ah : Int) (sa : Option Addr) (sn sc : Nat) (F : Nat → Rw) (qa : Option Addr) (qn qc : Nat) (K : Nat → Rw) (ti pa tr li si pu hl : Int) (w : World) (hS : RdR w sa sn sc F) (hQ : RdR w qa qn qc K) (hM : hnB cr nx ah sn F qn K ti pa tr li si pu hl = false) :
    Calls Try.prog 67 #[.agg (hnA cr nx ah (.slice sa sn sc) (.slice qa qn qc) ti pa tr li si pu hl), cv] w fun e w' => e = .returned (.tuple #[.agg #[.int .i64 0, .int .i64 0, .int .i64 0, .slice none 0 0, .slice none 0 0, .int .i64 0, .int .i64 0, .int .i64 0, .int .i64 0, .int .i64 0, .int .i64 0, .int .i64 0], .slice none 0 0, .int .i64 11]) ∧ w.grownBy w' none := by
  have h0 := fun wz h1 h2 => hmay_any cr nx ah sa sn sc F qa qn qc K ti pa tr li si pu hl wz h1 h2
  rw [hM] at h0
  unfold hnA at h0 ⊢
  have b0 := BxS.new w 50 #[.int .i64 cr, .int .i64 nx, .int .i64 ah, .slice sa sn sc, .slice qa qn qc, .int .i64 ti, .int .i64 pa, .int .i64 tr, .int .i64 li, .int .i64 si, .int .i64 pu, .int .i64 hl]
  have g0 := World.grownBy_alloc w (.cells #[.int .i64 cr, .int .i64 nx, .int .i64 ah, .slice sa sn sc, .slice qa qn qc, .int .i64 ti, .int .i64 pa, .int .i64 tr, .int .i64 li, .int .i64 si, .int .i64 pu, .int .i64 hl] 50) none
  generalize hw0 : w.alloc (.cells #[.int .i64 cr, .int .i64 nx, .int .i64 ah, .slice sa sn sc, .slice qa qn qc, .int .i64 ti, .int .i64 pa, .int .i64 tr, .int .i64 li, .int .i64 si, .int .i64 pu, .int .i64 hl] 50) = w0 at b0 g0
  have z0 := BxS.new w0 50 #[.int .i64 0, .int .i64 0, .int .i64 0, .slice none 0 0, .slice none 0 0, .int .i64 0, .int .i64 0, .int .i64 0, .int .i64 0, .int .i64 0, .int .i64 0, .int .i64 0]
  have g1 := World.grownBy_alloc w0 (.cells #[.int .i64 0, .int .i64 0, .int .i64 0, .slice none 0 0, .slice none 0 0, .int .i64 0, .int .i64 0, .int .i64 0, .int .i64 0, .int .i64 0, .int .i64 0, .int .i64 0] 50) none
  generalize hw1 : w0.alloc (.cells #[.int .i64 0, .int .i64 0, .int .i64 0, .slice none 0 0, .slice none 0 0, .int .i64 0, .int .i64 0, .int .i64 0, .int .i64 0, .int .i64 0, .int .i64 0, .int .i64 0] 50) = w1 at z0 g1
  have B1 := b0.keep g1 (by simp)
  obtain ⟨c0, c1, c2, c3, c4, c5, c6, c7, c8, c9, c10, c11⟩ := B1.cell12
  have G1 := grown_trans g0 g1
  have i12 := Try.info_hn
  have t1 : True := trivial
  go_enter Try.func67, Try.ntmps67
  go_wp2_with (first
    | (go_at_call 64; have _t := t1; clear t1; refine (h0 w1 (hS.keep G1) (hQ.keep G1)).mono ?_; rintro e w2 ⟨rfl, g2⟩; have z2 := z0.keep g2 (by simp); have t2 : True := trivial)
    | (have _t := t2; refine wpList_stX _ rfl _ (.tmp 4) (.tmp 12) rfl w0.heap.size _ _ rfl rfl z2 i12 rfl (by simp [Value.oneCell']) ?_; clear t2; intro w9 b9 g9))
  refine bodyPost_ret (results_cell3 rfl _ _ _ ⟨w0.heap.size, 0, none⟩ _ (.slice none 0 0) (.int .i64 11) rfl (BxS.load (t := 50) b9 Try.underlying50 Try.info_hn) rfl rfl) rfl ?_
  exact ⟨rfl, grown_far (grown_trans G1 g2) g9 (fun q e => by cases e; exact g0.size)⟩
end Go.Proofs.Ytnnoeeakkpaocaa
