import Derived.Deep.CutBlock
import Derived.Test.YtnjdbbjhplebhaaPd12
namespace Go.Proofs.Ytnjdbbjhplebhaa
open Go.RowKit
set_option maxRecDepth 100000
set_option linter.unusedVariables false
set_option linter.unusedSimpArgs false

section
theorem RdTu.keepW {w w' : World} {a : Option Addr} {n cap : Nat} {K : Nat → Int × Int} (h : RdTu w a n cap K) (hg : w.grownBy w' none) : RdTu w' a n cap K :=
  ⟨h.le, h.max, fun h0 => by
    obtain ⟨b, off, e, hb, hc⟩ := h.at' h0
    exact ⟨b, off, e, Nat.lt_of_lt_of_le hb hg.size, fun i hi j hj => (World.cell?_of_block (w := w) (hg.block b hb (by simp))).trans (hc i hi j hj)⟩, h.ok⟩
theorem RdIn.keepW {w w' : World} {a : Option Addr} {n cap : Nat} {K : Nat → Int} (h : RdIn w a n cap K) (hg : w.grownBy w' none) : RdIn w' a n cap K :=
  ⟨h.le, h.max, fun h0 => by
    obtain ⟨b, off, e, hb, hc⟩ := h.at' h0
    exact ⟨b, off, e, Nat.lt_of_lt_of_le hb hg.size, fun i hi j hj => (World.cell?_of_block (w := w) (hg.block b hb (by simp))).trans (hc i hi j hj)⟩, h.ok⟩
set_option maxHeartbeats 32000000 in
theorem due_walk (ra ma sa : Option Addr) (rn rc mn mc sn sc : Nat) (K M : Nat → Int × Int) (S : Nat → Int) (w : World) (hK : RdTu w ra rn rc K) (hM : RdTu w ma mn mc M) (hS : RdIn w sa sn sc S) :
    Calls Try.prog 4 #[.slice ra rn rc, .slice ma mn mc, .slice sa sn sc] w fun e w' => e = .returned (.bool true) ∧ w.grownBy w' none := by
  have HK : Hid _ := hK
  have HM : Hid _ := hM
  have HS : Hid _ := hS
  clear hK hM hS
  go_enter Try.func4, Try.ntmps4
  refine wp_seq_k fun K0 hK0 => ?_
  have HK0 : Hid _ := hK0
  clear hK0
  go_wp2
  refine HK0.out _ _ ?_
  clear HK0
  refine wp_seq_k fun K1 hK1 => ?_
  have HK1 : Hid _ := hK1
  clear hK1
  go_wp2
  refine HK1.out _ _ ?_
  clear HK1
  refine wp_seq_k fun K2 hK2 => ?_
  have HK2 : Hid _ := hK2
  clear hK2
  have s0 : True := trivial
  go_wp2_with (first
    | (at_make; have _t := s0; clear s0; refine wpList_mkIn rfl _ _ rfl 40 rfl rfl (by decide) ?_; intro w1 hi1 g1))
  obtain ⟨lo, hlo⟩ : ∃ lo, lo = w.heap.size := ⟨_, rfl⟩
  obtain ⟨g8, hg8⟩ : ∃ g8, g8 = w.heap.size := ⟨_, rfl⟩
  rw [← hg8] at hi1 ⊢
  have HLO : Hid _ := hlo
  have HG8 : Hid _ := hg8
  have HI1 : Hid (InB w1 g8 40 (fun t => (rtW (dW K) 0 t : Int))) := InB.eq hi1 (fun i _ => rfl)
  have HF1 : Hid (Fz (fun k => lo ≤ k) w w1) := (Fz.refl _ _).step g1 (fun k e => by cases e)
  have HL1 : Hid (g8 < w1.heap.size) := hi1.lt
  clear hlo hg8 hi1 g1
  refine HK2.out _ _ ?_
  clear HK2
  refine wp_seq_k fun K3 hK3 => ?_
  have HK3 : Hid _ := hK3
  clear hK3
  go_wp2
  go_loopw [9, 7] (fun v9 v7 wr => ∃ (i : Nat) (a : Option Addr) (c : Nat), i ≤ 6 ∧ i ≤ rn ∧ v9 = .int .i64 (i : Nat) ∧ v7 = .slice a i c ∧ Hid (OwT3 32 wr lo a i c (dW K)) ∧ Hid (g8 < wr.heap.size) ∧ Hid (∀ g, (Value.slice a i c).ownBlock = some g → g ≠ g8) ∧ Hid (InB wr g8 40 (fun t => (rtW (dW K) i t : Int))) ∧ Hid (Fz (fun k => lo ≤ k) w wr)) (fun v9 v7 _ => 6 - (intOf v9).toNat)
  case atStart => exact ⟨0, none, 0, by omega, Nat.zero_le _, rfl, rfl, OwT3.nil _ _ _ _, HL1.out, (fun g h => by cases h), HI1.out, HF1.out⟩
  case round =>
    obtain ⟨i, a, c, hi6, hin, rfl, rfl, hO, hgl, hng, hIR, HF⟩ := hrel
    have hgr : w.grownBy wr none := Fz.grown (World.grownBy.refl _ _) HF.out (fun k e => by have := HLO.out; omega)
    by_cases hlt : i < rn
    · have lk : (i : Int) < (rn : Int) := by omega
      by_cases hl6 : i < 6
      · have lk6 : (i : Int) < 6 := by omega
        have hmm := HK.out
        obtain ⟨b, off, hma, hbl, hc⟩ := hmm.at' (by omega)
        have hok := hmm.ok i hlt
        have c0' := hc i hlt 0 (by decide)
        have c1' := hc i hlt 1 (by decide)
        have c0 : wr.cell? ⟨b, off + i * 2, none⟩ = some (.int .i64 (K i).1) := by
          have h : w.cell? ⟨b, off + (i * 2 + 0), none⟩ = some (.int .i64 (K i).1) := c0'
          rw [Nat.add_zero] at h
          exact (World.cell?_of_block (w := w) (hgr.block b hbl (by simp))).trans h
        have c1w : w.cell? ⟨b, off + i * 2 + 1, none⟩ = some (.int .i64 (K i).2) := by
          have h : w.cell? ⟨b, off + (i * 2 + 1), none⟩ = some (.int .i64 (K i).2) := c1'
          rw [← Nat.add_assoc] at h
          exact h
        have c1 : wr.cell? ⟨b, off + i * 2 + 1, none⟩ = some (.int .i64 (K i).2) := (World.cell?_of_block (w := w) (hgr.block b hbl (by simp))).trans c1w
        have PF := fun wz => pickL_any (K i).1 30 wz hok.1 (by decide) (by decide)
        have PT := fun wz => pickL_any (K i).2 10 wz hok.2 (by decide) (by decide)
        have hoy := tdiv_ok _ hok.2
        have PR := fun wz => pickL_any ((K i).2.tdiv 10) 4 wz hoy (by decide) (by decide)
        have hwy : IntKind.i64.wrap ((K i).2.tdiv 10) = (K i).2.tdiv 10 := wrap_inP _ hoy.1 hoy.2
        have hfl := pkL_lt (K i).1 30 (by decide)
        have hdl := pkL_lt (K i).2 10 (by decide)
        have hel := pkL_lt ((K i).2.tdiv 10) 4 (by decide)
        obtain ⟨f, hf⟩ : ∃ f, f = pkL (K i).1 30 := ⟨_, rfl⟩
        obtain ⟨d, hd⟩ : ∃ d, d = pkL (K i).2 10 := ⟨_, rfl⟩
        obtain ⟨e4, he4⟩ : ∃ e4, e4 = pkL ((K i).2.tdiv 10) 4 := ⟨_, rfl⟩
        obtain ⟨t, ht⟩ : ∃ t, t = f + d := ⟨_, rfl⟩
        obtain ⟨r, hr⟩ : ∃ r, r = 1 + e4 := ⟨_, rfl⟩
        have hti : (f : Int) + (d : Int) = (t : Int) := by omega
        have hri : (1 : Int) + (e4 : Int) = (r : Int) := by omega
        have HDW : Hid (dW K i = ⟨f, t, r⟩) := by show _ = _; unfold dW; rw [← hf, ← hd, ← he4, ht, hr]
        have HI6 : Hid (i < 6) := hl6
        have HIN : Hid (i + 1 ≤ rn) := hlt
        have HTL : Hid (t ≤ 38 ∧ f ≤ t ∧ r ≤ 4) := ⟨by omega, by omega, by omega⟩
        have hf30 : (f : Int) ≤ 29 := by omega
        have hd10 : (d : Int) ≤ 9 := by omega
        have ht38 : (t : Int) ≤ 38 := by omega
        have he10 : (e4 : Int) ≤ 3 := by omega
        have hr4 : (r : Int) ≤ 4 := by omega
        have hwr : IntKind.i64.wrap (r : Int) = (r : Int) := wrap_inP _ (by omega) (by omega)
        rw [← hf] at PF
        rw [← hd] at PT
        rw [← he4] at PR
        obtain ⟨x0, hx0⟩ : ∃ x0, x0 = (K i).1 := ⟨_, rfl⟩
        obtain ⟨x1, hx1⟩ : ∃ x1, x1 = (K i).2 := ⟨_, rfl⟩
        rw [← hx0] at c0 PF
        rw [← hx1] at c1 c1w PT PR hwy
        obtain ⟨y, hy⟩ : ∃ y, y = x1.tdiv 10 := ⟨_, rfl⟩
        rw [← hy] at PR hwy
        have hyd : x1.tdiv 10 = y := hy.symm
        have HBL : Hid (b < w.heap.size) := hbl
        have HC1 : Hid (w.cell? ⟨b, off + i * 2 + 1, none⟩ = some (.int .i64 x1)) := c1w
        subst hma
        clear hmm hc c0' c1' hf hd he4 ht hr hl6 hlt hx0 hx1 hok hi6 hin hgr hoy hfl hdl hel hy hbl c1w
        have hb2 : BxS (wr.alloc (.cells #[.int .i64 (f : Nat), .int .i64 (t : Nat), .int .i64 (r : Nat)] 32)) wr.heap.size 32 (cells3 (dW K i)).toArray := by
          rw [HDW.out]
          exact BxS.new wr 32 _
        have hO2 := OwT3.keep hO.out (World.grownBy_alloc wr (.cells #[.int .i64 (f : Nat), .int .i64 (t : Nat), .int .i64 (r : Nat)] 32) none)
        have HB2 : Hid _ := hb2
        have HO2 : Hid _ := hO2
        have HLS : Hid (lo ≤ (wr.alloc (.cells #[.int .i64 (f : Nat), .int .i64 (t : Nat), .int .i64 (r : Nat)] 32)).heap.size) := by
          have h1 := (World.grownBy_alloc wr (.cells #[.int .i64 (f : Nat), .int .i64 (t : Nat), .int .i64 (r : Nat)] 32) none).size
          have h2 := HF.out.size
          have h3 := HLO.out
          show lo ≤ _
          omega
        clear hb2 hO2
        have s0 : True := trivial
        go_wp2_with (first
          | (have _t := s0; clear s0; go_at_call 11; refine (PF _).mono ?_; rintro e wx ⟨rfl, hwx⟩; rw [hwx]; clear hwx; have s1 : True := trivial)
          | (have _t := s1; clear s1; go_at_call 11; refine (PT _).mono ?_; rintro e wx ⟨rfl, hwx⟩; rw [hwx]; clear hwx; have s2 : True := trivial)
          | (have _t := s2; clear s2; go_at_call 11; refine (PR _).mono ?_; rintro e wx ⟨rfl, hwx⟩; rw [hwx]; clear hwx; have s3 : True := trivial)
          | (have _t := s3; clear s3; refine wpList_psT3 rfl (.tmp 57) (.tmp 69) 22 32 Try.underlying22 Try.info_wdF rfl a i c lo (dW K) rfl HO2.out HLS.out wr.heap.size rfl HB2.out (by have := HI6.out; omega) ?_; intro a2 c2 w2 hO3 hor g3))
        have HF2 : Hid (Fz (fun k => lo ≤ k) w w2) := (HF.out.step (World.grownBy_alloc wr (.cells #[.int .i64 (f : Nat), .int .i64 (t : Nat), .int .i64 (r : Nat)] 32) none) (fun k e => by cases e)).step g3 (fun k e _ => hO.out.new k e)
        have hng2 : ∀ g, (Value.slice a2 (i + 1) c2).ownBlock = some g → g ≠ g8 := fun g e => by
          rcases hor g e with h | h
          · exact hng.out g h
          · have h1 := hgl.out
            have h2 := (World.grownBy_alloc wr (.cells #[.int .i64 (f : Nat), .int .i64 (t : Nat), .int .i64 (r : Nat)] 32) none).size
            omega
        have hi2 : InB w2 g8 40 (fun t => (rtW (dW K) i t : Int)) := InB.keep (InB.keep hIR.out (World.grownBy_alloc wr (.cells #[.int .i64 (f : Nat), .int .i64 (t : Nat), .int .i64 (r : Nat)] 32) none) (by simp)) g3 (fun e => hng.out g8 e.symm rfl)
        have hgl2 : g8 < w2.heap.size := hi2.lt
        have HO3 : Hid _ := hO3
        have HN2 : Hid _ := hng2
        have HI2 : Hid (InB w2 g8 40 (fun s => (rtP (dW K) i f s : Int))) := by
          have h := rtP_start (dW K) i
          rw [HDW.out] at h
          show InB _ _ _ _
          rw [show rtP (dW K) i f = rtW (dW K) i from h]
          exact hi2
        have HGL2 : Hid _ := hgl2
        clear hO hO3 hgl hng hIR HF HB2 HO2 HLS hor g3 hng2 hi2 hgl2 c0 c1 PF PT HI1 HF1 HL1
        go_loopw [12] (fun v12 wx => ∃ s : Nat, f ≤ s ∧ s ≤ t ∧ v12 = .int .i64 (s : Nat) ∧ Hid (InB wx g8 40 (fun u => (rtP (dW K) i s u : Int))) ∧ Hid (OwT3 32 wx lo a2 (i + 1) c2 (dW K)) ∧ Hid (Fz (fun k => lo ≤ k) w wx) ∧ Hid (g8 < wx.heap.size)) (fun v12 _ => t - (intOf v12).toNat)
        case atStart => exact ⟨f, Nat.le_refl _, HTL.out.2.1, rfl, HI2.out, HO3.out, HF2.out, HGL2.out⟩
        case round =>
          clear HI2 HO3 HF2 HGL2
          obtain ⟨s, hfs, hst, rfl, hI, hO, HF, hgl⟩ := hrel
          by_cases hlt2 : s < t
          · have lk2 : (s : Int) < (t : Int) := by omega
            have HS40 : Hid (s < 40) := by have := HTL.out.1; show s < 40; omega
            have hs40 : (s : Int) < 40 := by omega
            have hst2 := rtP_step (dW K) i s (by rw [HDW.out]; exact hfs)
            rw [HDW.out] at hst2
            have hqb : rtP (dW K) i s s ≤ 1000 := by
              have h1 := rt_bd (dW K) s i (fun j _ => by have := (dW_bd K j).2.2.2; omega)
              unfold rtP
              rw [if_neg (by omega)]
              have h2 := sumF_bd (fun j => if (dW K j).fr ≤ s ∧ s < (dW K j).by' then (dW K j).by8 else 0) 4 (fun j => by
                have := (dW_bd K j).2.2.2
                split
                · exact this
                · exact Nat.zero_le _) i
              have h3 : rtW (dW K) i s ≤ i * 4 := h2
              have := HI6.out
              omega
            obtain ⟨q, hq⟩ : ∃ q, q = rtP (dW K) i s s := ⟨_, rfl⟩
            have HQG : Hid (((rtP (dW K) i s s : Nat) : Int) = (q : Int)) := by show _ = _; rw [← hq]
            rw [← hq] at hst2 hqb
            have hqi : (q : Int) ≤ 1000 := by omega
            have HST : Hid (atG (fun u => (rtP (dW K) i s u : Int)) s ((q : Int) + (r : Int)) = fun u => (rtP (dW K) i (s + 1) u : Int)) := hst2
            have hwq : IntKind.i64.wrap ((q : Int) + (r : Int)) = (q : Int) + (r : Int) := wrap_inP _ (by omega) (by omega)
            have HFS : Hid (f ≤ s ∧ s < t) := ⟨hfs, hlt2⟩
            have hgr : w.grownBy wr none := Fz.grown (World.grownBy.refl _ _) HF.out (fun k e => by have := HLO.out; omega)
            have hc1 : wr.cell? ⟨b, off + i * 2 + 1, none⟩ = some (.int .i64 x1) := (World.cell?_of_block (w := w) (hgr.block b HBL.out (by simp))).trans HC1.out
            clear hq hst2 hqb hfs hst hlt2
            go_upto_region 12 with fail
            have Gd := grown_drew wr none
            have hbw : b < wr.heap.size := Nat.lt_of_lt_of_le HBL.out hgr.size
            have SSn : InB wr.drew g8 40 (fun u => (rtP (dW K) i s u : Int)) ∧ wr.drew.cell? ⟨b, off + i * 2 + 1, none⟩ = some (.int .i64 x1) := ⟨InB.keep hI.out Gd (by simp), (World.cell?_of_block (w := wr) (Gd.block b hbw (by simp))).trans hc1⟩
            refine wp_regionM (fun wz => InB wz g8 40 (fun u => (rtP (dW K) i s u : Int)) ∧ wz.cell? ⟨b, off + i * 2 + 1, none⟩ = some (.int .i64 x1)) [14] #[false, false, false, false, false, false, false, false, false, false, false, false, false, false, false] rfl (by kernel_rfl) ?_
            have HWD : Hid (wr.grownBy wr.drew none) := Gd
            generalize wr.drew = wd at *
            have SS := SSn
            clear hc1 hbw hgr Gd
            refine wpAnyY_takeF 0 (.slice (some ⟨g8, 0, none⟩) 40 40) rfl (by kernel_rfl) (fun _ _ _ h => h) rfl (by intro wz; go_simp; try rfl) ?_
            try simp only [List.getElem_toArray, List.getElem_cons_succ, List.getElem_cons_zero, Act.put, List.setIfInBounds_toArray, List.set_cons_zero, List.set_cons_succ]
            refine wpAnyY_takeF 1 (.int .i64 (s : Nat)) rfl (by kernel_rfl) (fun _ _ _ h => h) rfl (by intro wz; go_simp; try rfl) ?_
            try simp only [List.getElem_toArray, List.getElem_cons_succ, List.getElem_cons_zero, Act.put, List.setIfInBounds_toArray, List.set_cons_zero, List.set_cons_succ]
            refine wpAnyY_takeF 2 (.pointer (some ⟨g8, s, none⟩)) rfl (by kernel_rfl) (fun _ _ _ h => h) rfl (by intro wz; go_simp; try rfl) ?_
            try simp only [List.getElem_toArray, List.getElem_cons_succ, List.getElem_cons_zero, Act.put, List.setIfInBounds_toArray, List.set_cons_zero, List.set_cons_succ]
            refine wpAnyY_take [14] 3 (.int .i64 (q : Nat)) rfl (by kernel_rfl) (fun _ _ _ h => h) SS rfl (by rintro wz ⟨z1, z2⟩; have hc := InB.cell z1 HS40.out; rw [HQG.out] at hc; go_simp) ?_
            try simp only [List.getElem_toArray, List.getElem_cons_succ, List.getElem_cons_zero, Act.put, List.setIfInBounds_toArray, List.set_cons_zero, List.set_cons_succ]
            refine wpAnyY_takeF 4 (.slice (some ⟨b, off, none⟩) rn rc) rfl (by kernel_rfl) (fun _ _ _ h => h) rfl (by intro wz; go_simp; try rfl) ?_
            try simp only [List.getElem_toArray, List.getElem_cons_succ, List.getElem_cons_zero, Act.put, List.setIfInBounds_toArray, List.set_cons_zero, List.set_cons_succ]
            refine wpAnyY_takeF 5 (.int .i64 (i : Nat)) rfl (by kernel_rfl) (fun _ _ _ h => h) rfl (by intro wz; go_simp; try rfl) ?_
            try simp only [List.getElem_toArray, List.getElem_cons_succ, List.getElem_cons_zero, Act.put, List.setIfInBounds_toArray, List.set_cons_zero, List.set_cons_succ]
            refine wpAnyY_takeF 6 (.pointer (some ⟨b, off + i * 2, none⟩)) rfl (by kernel_rfl) (fun _ _ _ h => h) rfl (by intro wz; go_simp; try rfl) ?_
            try simp only [List.getElem_toArray, List.getElem_cons_succ, List.getElem_cons_zero, Act.put, List.setIfInBounds_toArray, List.set_cons_zero, List.set_cons_succ]
            refine wpAnyY_takeF 7 (.pointer (some ⟨b, off + i * 2 + 1, none⟩)) rfl (by kernel_rfl) (fun _ _ _ h => h) rfl (by intro wz; go_simp; try rfl) ?_
            try simp only [List.getElem_toArray, List.getElem_cons_succ, List.getElem_cons_zero, Act.put, List.setIfInBounds_toArray, List.set_cons_zero, List.set_cons_succ]
            refine wpAnyY_take [14] 8 (.int .i64 x1) rfl (by kernel_rfl) (fun _ _ _ h => h) SS rfl (by rintro wz ⟨z1, z2⟩; go_simp) ?_
            try simp only [List.getElem_toArray, List.getElem_cons_succ, List.getElem_cons_zero, Act.put, List.setIfInBounds_toArray, List.set_cons_zero, List.set_cons_succ]
            refine wpAnyY_takeF 9 (.int .i64 y) rfl (by kernel_rfl) (fun _ _ _ h => h) rfl (by intro wz; go_simp; try rfl) ?_
            try simp only [List.getElem_toArray, List.getElem_cons_succ, List.getElem_cons_zero, Act.put, List.setIfInBounds_toArray, List.set_cons_zero, List.set_cons_succ]
            refine wpAnyY_oneB 10 rfl (by kernel_rfl) (fun KK hKK => ?_)
            go_simp
            go_at_call 11
            refine (PR _).mono ?_
            rintro e wx ⟨rfl, hwx⟩
            dsimp only
            rw [hwx]
            clear hwx
            refine hKK _ _ (fun h _ => h) ?_
            try simp only [List.getElem_toArray, List.getElem_cons_succ, List.getElem_cons_zero, Act.put, List.setIfInBounds_toArray, List.set_cons_zero, List.set_cons_succ]
            refine wpAnyY_takeF 11 (.int .i64 (r : Nat)) rfl (by kernel_rfl) (fun _ _ _ h => h) rfl (by intro wz; go_simp; try rfl) ?_
            try simp only [List.getElem_toArray, List.getElem_cons_succ, List.getElem_cons_zero, Act.put, List.setIfInBounds_toArray, List.set_cons_zero, List.set_cons_succ]
            refine wpAnyY_takeF 12 (.int .i64 ((q : Int) + (r : Int))) rfl (by kernel_rfl) (fun _ _ _ h => h) rfl (by intro wz; go_simp; try rfl) ?_
            try simp only [List.getElem_toArray, List.getElem_cons_succ, List.getElem_cons_zero, Act.put, List.setIfInBounds_toArray, List.set_cons_zero, List.set_cons_succ]
            refine wpAnyY_takeF 13 (.pointer (some ⟨g8, s, none⟩)) rfl (by kernel_rfl) (fun _ _ _ h => h) rfl (by intro wz; go_simp; try rfl) ?_
            try simp only [List.getElem_toArray, List.getElem_cons_succ, List.getElem_cons_zero, Act.put, List.setIfInBounds_toArray, List.set_cons_zero, List.set_cons_succ]
            refine wpAnyY_oneB 14 rfl (by kernel_rfl) (fun KK hKK => ?_)
            refine step_of_listR rfl (wpList_stI rfl (.tmp 90) (.tmp 89) rfl g8 40 s _ ((q : Int) + (r : Int)) rfl rfl SSn.1 HS40.out ?_)
            intro w4 hi4 g4
            refine wpList_nil ?_
            show KK _ _
            refine hKK _ _ (fun _ h => absurd (by decide) h) ?_
            try simp only [List.getElem_toArray, List.getElem_cons_succ, List.getElem_cons_zero, Act.put, List.setIfInBounds_toArray, List.set_cons_zero, List.set_cons_succ]
            refine wpAnyY_doneB (by kernel_rfl) ?_ _
            (try simp only [Exit.then, Exit.inBlock])
            rw [HST.out] at hi4
            have HI4 : Hid _ := hi4
            have HO4 : Hid (OwT3 32 w4 lo a2 (i + 1) c2 (dW K)) := (hO.out.keep HWD.out).keepR g4 (.inr (fun e => HN2.out g8 e rfl))
            have HF4 : Hid (Fz (fun k => lo ≤ k) w w4) := (HF.out.step HWD.out (fun k e => by cases e)).step g4 (fun k e _ => by cases e; have := HG8.out; have := HLO.out; omega)
            have HG4 : Hid (g8 < w4.heap.size) := hi4.lt
            clear SS SSn hi4 g4 hI hO HF hgl
            go_wp2
            exact ⟨⟨s + 1, by have := HFS.out; omega, HFS.out.2, by go_num, HI4.out, HO4.out, HF4.out, HG4.out⟩, by have := HFS.out; simp [intOf] <;> omega⟩
          · obtain rfl : t = s := by omega
            have lk2 : ¬ (t : Int) < (t : Int) := by omega
            have he := rtP_end (dW K) i
            rw [HDW.out] at he
            have hI9 : Hid (InB wr g8 40 (fun u => (rtW (dW K) (i + 1) u : Int))) := by
              show InB _ _ _ _
              rw [← show rtP (dW K) i t = rtW (dW K) (i + 1) from he]
              exact hI.out
            clear hI he
            go_wp2
            exact ⟨⟨i + 1, a2, c2, by have := HI6.out; omega, HIN.out, by go_num, rfl, hO.out, hgl.out, HN2.out, hI9.out, HF.out⟩, by have := HI6.out; simp [intOf] <;> omega⟩
      · obtain rfl : i = 6 := by omega
        have hgr2 : Hid (w.grownBy wr none) := hgr
        have hO9 : Hid (OwT3 32 wr lo a 6 c (dW K)) := hO.out
        have hI9 : Hid (InB wr g8 40 (fun t => (rtW (dW K) 6 t : Int))) := hIR.out
        clear hgr hO hIR
        go_wp2
        (try simp only [Exit.inBlock, Exit.then])
        refine HK3.out _ _ ?_
        clear HK3
        exact du_t13 (fun e w' => e = .returned (.bool true) ∧ w.grownBy w' none) wr ma sa a mn mc sn sc 6 c g8 (dW K) M S K (HM.out.keepW hgr2.out) (HS.out.keepW hgr2.out) hO9.out.rd hI9.out (by omega) (fun w' g => ⟨rfl, grown_trans hgr2.out g⟩)
    · obtain rfl : i = rn := by omega
      have lk : ¬ (i : Int) < (i : Int) := by omega
      have hgr2 : Hid (w.grownBy wr none) := hgr
      have hO9 : Hid (OwT3 32 wr lo a i c (dW K)) := hO.out
      have hI9 : Hid (InB wr g8 40 (fun t => (rtW (dW K) i t : Int))) := hIR.out
      clear hgr hO hIR
      go_wp2
      (try simp only [Exit.inBlock, Exit.then])
      refine HK3.out _ _ ?_
      clear HK3
      exact du_t13 (fun e w' => e = .returned (.bool true) ∧ w.grownBy w' none) wr ma sa a mn mc sn sc i c g8 (dW K) M S K (HM.out.keepW hgr2.out) (HS.out.keepW hgr2.out) hO9.out.rd hI9.out (by omega) (fun w' g => ⟨rfl, grown_trans hgr2.out g⟩)
end
end Go.Proofs.Ytnjdbbjhplebhaa
