import Derived.Test.YtnnoeeakkpaocaaKAq
namespace Go.Proofs.Ytnnoeeakkpaocaa
open Go.RowKit
set_option maxRecDepth 100000
set_option linter.unusedVariables false
set_option linter.unusedSimpArgs false
/-- what Ask does to a hand that may be -/
def axO (d : Hd) (D : List Nat) : Bool := kwB (D.length : Nat) 1 1017 && decide (d.Q.length < 100)
def axV (d : Hd) (D : List Nat) : Hd := if axO d D = true then ⟨d.cr, d.nx, d.ah, d.ti, d.pa, d.tr, d.li, d.si, d.pu, d.hl, d.S, d.Q ++ [D]⟩ else d
def axE (d : Hd) (D : List Nat) : Nat := if kwB (D.length : Nat) 1 1017 = true then (if d.Q.length < 100 then 0 else 12) else 1
set_option maxHeartbeats 64000000 in
theorem ask1_any (gd : Nat) (a : Option Addr) (n c : Nat) (D : List Nat) (d : Hd) (lo : Nat) (wz : World) (g : Nat) (Z : Hx) (rs qs : List Rw) (bd : BxS wz gd 22 #[.slice a n c]) (hR : Rd wz a n c D) (hlo : lo ≤ g) (hB : BxS wz g 96 #[.int .i64 d.cr, .int .i64 d.nx, .int .i64 d.ah, .slice Z.sa Z.sn Z.sc, .slice Z.qa Z.qn Z.qc, .int .i64 d.ti, .int .i64 d.pa, .int .i64 d.tr, .int .i64 d.li, .int .i64 d.si, .int .i64 d.pu, .int .i64 d.hl, .slice none 0 0]) (hO : OwHd wz lo Z rs qs d) (hq : d.Q.length ≤ 100) :
    Calls Try.prog 68 #[.pointer (some ⟨g, 0, none⟩), .pointer (some ⟨gd, 0, none⟩)] wz fun e w' => ∃ (P1 : Hx) (rs1 qs1 : List Rw) (xa : Option Addr) (xn xc : Nat) (us1 : List Rw), e = .returned (.int .i64 (axE d D : Int)) ∧ BxS w' g 96 #[.int .i64 (axV d D).cr, .int .i64 (axV d D).nx, .int .i64 (axV d D).ah, .slice P1.sa P1.sn P1.sc, .slice P1.qa P1.qn P1.qc, .int .i64 (axV d D).ti, .int .i64 (axV d D).pa, .int .i64 (axV d D).tr, .int .i64 (axV d D).li, .int .i64 (axV d D).si, .int .i64 (axV d D).pu, .int .i64 (axV d D).hl, .slice xa xn xc] ∧ OwHd w' lo P1 rs1 qs1 (axV d D) ∧ OwW w' lo xa xn xc us1 [] ∧ (∀ x, Ofr (.slice xa xn xc) us1 x → ¬ Hbl P1 rs1 qs1 x) ∧ Fz (fun i => lo ≤ i) wz w' := by
  have x0 : wz.cell? ⟨gd, 0, none⟩ = some (.slice a n c) := bd.cell 0 (by show 0 < 1; decide)
  have hl := hR.len
  have lq := hO.q.len
  have hZ := size_any a n c wz
  have hgz := hB.lt
  obtain ⟨h0, h1, h2, h3, h4, h5, h6, h7, h8, h9, h10, h11, h12⟩ := hB.cell13
  have s0 : True := trivial
  cases hk : kwB (n : Nat) 1 1017 with
  | false =>
    have e1 : axV d D = d := by unfold axV axO; rw [hl, hk]; rfl
    have e2 : axE d D = 1 := by unfold axE; rw [hl, hk]; rfl
    rw [hk] at hZ
    rw [e1, e2]
    clear e1 e2 hk
    go_enter Try.func68, Try.ntmps68
    go_wp2_with (go_at_call 69; refine hZ.mono ?_; rintro e w1 ⟨rfl, hw⟩; have hw := hw.symm; subst hw)
    go_ret
    exact ⟨Z, rs, qs, none, 0, 0, [], rfl, hB, hO, OwW.nil _ _, (fun x hx => absurd hx (ofr_nil x)), Fz.refl _ _⟩
  | true =>
    rw [hk] at hZ
    have hkk := kwB_ok hk
    by_cases h100 : d.Q.length < 100
    · have e1 : axV d D = ⟨d.cr, d.nx, d.ah, d.ti, d.pa, d.tr, d.li, d.si, d.pu, d.hl, d.S, d.Q ++ [D]⟩ := by unfold axV axO; rw [hl, hk, decide_eq_true h100]; rfl
      have e2 : axE d D = 0 := by unfold axE; rw [hl, hk, if_pos rfl, if_pos h100]
      rw [e1, e2]
      clear e1 e2 hk
      obtain ⟨b, off, rfl, hbw, _⟩ := hR.at' (by omega)
      obtain ⟨i0, hi, hz0, hz1, hz2⟩ := info_parts Try.info_rw
      have kC := fun ww (h : Rd ww (some ⟨b, off, none⟩) n c D) => pclone_any b off n c D ww h (by omega) (by omega)
      have n100 : ((Z.qn : Int) == 100) = false := by simp; omega
      have U1 := hO.q.o
      have ub := U1.box hB (by decide)
      go_enter Try.func68, Try.ntmps68
      go_wp2_with (go_at_call 69; refine hZ.mono ?_; rintro e w1 ⟨rfl, hw⟩; have hw := hw.symm; subst hw)
      go_region_law (first
        | (go_simp; go_at_call 58; refine (kC _ (hR.keep (grown_drew wz none))).mono ?_; rintro e w2 ⟨g2', c2, rfl, hA2, g2⟩; have g12 := grown_trans (grown_drew wz none) g2; have B2 := hB.keep g12 (by simp); have U2 := U1.keep g12; obtain ⟨k0, k1, k2, k3, k4, k5, k6, k7, k8, k9, k10, k11, k12⟩ := B2.cell13; have gA := World.grownBy_alloc w2 (.cells #[.slice (some ⟨g2', 0, none⟩) n c2] 22) none; have m4 := (B2.keep gA (by simp)).cell13.2.2.2.2.1)
        | (refine step_apS _ rfl _ _ 48 22 i0 Go.Proofs.Ytnnoeeakkpaocaa.zr 1 24 Try.underlying48 hi hz0 hz1 hz2 rfl (by decide) rfl (.slice Z.qa Z.qn Z.qc) Z.qn (flatR qs) rfl (U2.own.alloc _) ⟨w2.heap.size, 0, none⟩ 1 1 [.slice (some ⟨g2', 0, none⟩) n c2] rfl rfl (one_row w2 _) (by simp [Value.oneCell']) (by decide) (by unfold maxLen; omega) (by omega) ?_; intro gx cx w3 hgx g3 hown3; have B3 := (B2.keep gA (by simp)).keep g3 (fun e => ub e.symm); have f3 := B3.free 4; have p4 := B3.cell13.2.2.2.2.1))
      all_goals
        have BS : BxS _ g 96 #[.int .i64 d.cr, .int .i64 d.nx, .int .i64 d.ah, .slice Z.sa Z.sn Z.sc, .slice (some ⟨gx, 0, none⟩) (Z.qn + 1) cx, .int .i64 d.ti, .int .i64 d.pa, .int .i64 d.tr, .int .i64 d.li, .int .i64 d.si, .int .i64 d.pu, .int .i64 d.hl, .slice none 0 0] := B3.set 4 (.slice (some ⟨gx, 0, none⟩) (Z.qn + 1) cx)
        have gS := grown_set w3 g 4 (.slice (some ⟨gx, 0, none⟩) (Z.qn + 1) cx)
        have hz : wz.heap.size ≤ w2.heap.size := g12.size
        have hzd : wz.drew.heap.size = wz.heap.size := rfl
        have hUA := U2.keep gA
        have hrA := (hA2.wide (show lo ≤ wz.drew.heap.size by omega)).keep gA
        have hap : ∀ q, q ∈ qs → ∀ y, q.v.ownBlock = some y → (Rw.mk (some ⟨g2', 0, none⟩) n c2 D).v.ownBlock ≠ some y := by
          intro q hq y hy e
          have h1 : wz.heap.size ≤ y := hA2.new y e
          have h2 := U1.bef.2 q hq y hy
          omega
        have hpu := OwR.push (r := ⟨some ⟨g2', 0, none⟩, n, c2, D⟩) hUA hrA hap g3 hown3 (by
          rcases hgx with h | h
          · exact .inl h
          · exact .inr (by have := gA.size; omega))
        have FS : Fz (fun i => i = g) w3 (w3.setCell ⟨g, 4, none⟩ (.slice (some ⟨gx, 0, none⟩) (Z.qn + 1) cx)) := (Fz.refl _ w3).step gS (fun q e _ => by cases e; rfl)
        have hfin := hpu.fz FS (fun x hx e => by
          subst e
          rcases hx with h | ⟨r, hr, h⟩
          · exact hpu.box B3 (by decide) h
          · exact (hpu.each r hr).box B3 (by decide) h)
        have hS2 := ((hO.s.keep g12).keep gA).fz (fz_of2 g3) (fun x hx e => hO.ap x hx (.inl e))
        have hS3 := hS2.fz FS (fun x hx e => by subst e; exact box_ofrC hS2 B3 _ hx rfl)
        have hgA := gA.size
        have hap2 : ∀ x, Ofr (.slice Z.sa Z.sn Z.sc) rs x → ¬ Ofr (.slice (some ⟨gx, 0, none⟩) (Z.qn + 1) cx) (qs ++ [⟨some ⟨g2', 0, none⟩, n, c2, D⟩]) x := by
          intro x hx hx2
          have hxl := hO.s.hi x hx
          rcases hx2 with h | ⟨r, hr, h⟩
          · have h : gx = x := Option.some.inj h
            rcases hgx with h' | h'
            · exact hO.ap x hx (.inl (by rw [h', h]))
            · omega
          · rcases List.mem_append.1 hr with hr | hr
            · exact hO.ap x hx (.inr ⟨r, hr, h⟩)
            · have hr := List.mem_singleton.1 hr
              subst hr
              have h1 : wz.heap.size ≤ x := hA2.new x h
              omega
        have FF : Fz (fun i => lo ≤ i) wz (w3.setCell ⟨g, 4, none⟩ (.slice (some ⟨gx, 0, none⟩) (Z.qn + 1) cx)) :=
          (((Fz.refl _ wz).step (grown_trans g12 gA) (fun q e _ => by cases e)).step g3 (fun q e _ => hO.q.o.new q e)).step gS (fun q e _ => by cases e; exact hlo)
        have eD : (qs ++ [(⟨some ⟨g2', 0, none⟩, n, c2, D⟩ : Rw)]).map Rw.D = d.Q ++ [D] := by rw [List.map_append, hO.q.d]; rfl
        go_wp2
        go_ret
        exact ⟨⟨Z.sa, Z.sn, Z.sc, some ⟨gx, 0, none⟩, Z.qn + 1, cx⟩, rs, qs ++ [⟨some ⟨g2', 0, none⟩, n, c2, D⟩], none, 0, 0, [], rfl, BS, ⟨hS3, ⟨hfin, eD⟩, hap2⟩, OwW.nil _ _, (fun x hx => absurd hx (ofr_nil x)), FF⟩
    · have e1 : axV d D = d := by unfold axV axO; rw [decide_eq_false h100, Bool.and_false]; rfl
      have e2 : axE d D = 12 := by unfold axE; rw [hl, hk, if_pos rfl, if_neg h100]
      rw [e1, e2]
      have n100 : ((Z.qn : Int) == 100) = true := by simp; omega
      clear e1 e2 hk
      go_enter Try.func68, Try.ntmps68
      go_wp2_with (go_at_call 69; refine hZ.mono ?_; rintro e w1 ⟨rfl, hw⟩; have hw := hw.symm; subst hw)
      go_ret
      exact ⟨Z, rs, qs, none, 0, 0, [], rfl, hB, hO, OwW.nil _ _, (fun x hx => absurd hx (ofr_nil x)), Fz.refl _ _⟩
end Go.Proofs.Ytnnoeeakkpaocaa
