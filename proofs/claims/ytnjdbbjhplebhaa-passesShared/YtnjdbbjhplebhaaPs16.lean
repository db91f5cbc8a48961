import Derived.Test.YtnjdbbjhplebhaaPs15
import Derived.Test.YtnjdbbjhplebhaaPs1
namespace Go.Proofs.Ytnjdbbjhplebhaa
open Go.RowKit
set_option maxRecDepth 100000
set_option linter.unusedVariables false
set_option linter.unusedSimpArgs false

section
set_option maxHeartbeats 32000000 in
theorem rshare_ok (w : World) (wa ja : Option Addr) (wn wc jn jc : Nat) (W J : Nat → Jb) (hW : RdT w wa wn wc (fun i => tJ (W i))) (hJ : RdT w ja jn jc (fun i => tJ (J i))) (hm : MayS W J wn jn) :
    Calls Try.prog 5 #[.slice wa wn wc, .slice ja jn jc] w fun e w' => ∃ ga gc, e = .returned (.tuple #[.slice ga jn gc, .int .i64 0]) ∧ OwI w' w.heap.size ga jn gc (goneN W J wn jn) ∧ w.grownBy w' none := by
  have W0 := (rshared_any w wa ja wn wc jn jc _ _ hW hJ).mono (R' := fun e w' => e = .returned (.int .i64 0) ∧ w.grownBy w' none) (fun e w' h => by
    obtain ⟨z, h1, h2, h3⟩ := h
    have hno : ¬ (200 < wn ∨ 100 < jn) := by have := hm.hw; have := hm.hj; omega
    have hz := h2.2.2 hno (fun h => by
      rcases h with ⟨i, hi, hb⟩ | ⟨i, hi, hb⟩
      · rw [t3B_J (hm.w i hi)] at hb; cases hb
      · rw [t3B_J (hm.j i)] at hb; cases hb)
    rw [hz] at h1
    exact ⟨h1, h3⟩)
  have R0 : ∀ w1, w.grownBy w1 none → _ := fun w1 g => rates_any w1 wa wn wc W (hW.keep g) hm.w hm.hw
  have HM : Hid _ := hm
  have HJ : Hid _ := hJ
  have HR0 : Hid _ := R0
  have hj6 : (jn : Int) ≤ 100 := by have := hm.hj; omega
  obtain ⟨lo, hlo0⟩ : ∃ lo, lo = w.heap.size := ⟨_, rfl⟩
  have HL0 : Hid (lo = w.heap.size) := hlo0
  rw [← hlo0]
  clear hW hJ hm R0 hlo0
  go_enter Try.func5, Try.ntmps5
  refine wp_seq_k fun K0 hK0 => ?_
  have HK0 : Hid _ := hK0
  clear hK0
  go_wp2
  refine HK0.out _ _ ?_
  clear HK0
  refine wp_seq_k fun K1 hK1 => ?_
  have HK1 : Hid _ := hK1
  clear hK1
  go_wp2_with (go_at_call 12; refine W0.mono ?_; rintro e w1 ⟨rfl, g1⟩)
  refine HK1.out _ _ ?_
  clear HK1
  have R1 := HR0.out w1 g1
  have HG1 : Hid _ := g1
  clear g1
  refine wp_seq_k fun K2 hK2 => ?_
  have HK2 : Hid _ := hK2
  clear hK2
  go_wp2_with (go_at_call 13; refine R1.mono ?_; rintro e w2 ⟨g7, rfl, hi7, hl7, g2⟩)
  have H7 : Hid _ := hi7
  have HG2 : Hid (w.grownBy w2 none) := grown_trans HG1.out g2
  clear hi7 hl7 g2 R1
  refine HK2.out _ _ ?_
  clear HK2
  refine wp_seq_k fun K3 hK3 => ?_
  have HK3 : Hid _ := hK3
  clear hK3
  go_wp2
  refine HK3.out _ _ ?_
  clear HK3
  refine wp_seq_k fun K4 hK4 => ?_
  have HK4 : Hid _ := hK4
  clear hK4
  go_wp2
  go_loopw [10, 8, 9] (fun v10 v8 v9 wr => ∃ (i : Nat) (a1 : Option Addr) (c1 : Nat) (a2 : Option Addr) (c2 : Nat), i ≤ jn ∧ v10 = .int .i64 (i : Nat) ∧ v8 = .slice a1 i c1 ∧ v9 = .slice a2 i c2 ∧ Hid (OwI wr lo a1 i c1 (fun j => ((J j).by8 : Int))) ∧ Hid (OwI wr lo a2 i c2 (g0J J)) ∧ Hid ((∀ g, (Value.slice a1 0 c1).ownBlock = some g → (Value.slice a2 0 c2).ownBlock ≠ some g) ∧ (Value.slice a1 0 c1).ownBlock ≠ some g7 ∧ (Value.slice a2 0 c2).ownBlock ≠ some g7) ∧ Hid (InB wr g7 20000 (fun t => (rtW W wn t : Int))) ∧ Hid (lo ≤ wr.heap.size) ∧ Hid (w.grownBy wr none)) (fun v10 v8 v9 _ => jn - (intOf v10).toNat)
  case atStart => exact ⟨0, none, 0, none, 0, Nat.zero_le _, rfl, rfl, rfl, OwI.nil _ _ _, OwI.nil _ _ _, ⟨(fun g h => by cases h), by simp [Value.ownBlock], by simp [Value.ownBlock]⟩, H7.out, by have := HL0.out; have := HG2.out.size; show lo ≤ _; omega, HG2.out⟩
  case round =>
    clear H7 HG2
    obtain ⟨i, a1, c1, a2, c2, hi, rfl, rfl, rfl, hO1, hO2, hne, h7, hlo, hg⟩ := hrel
    by_cases hlt : i < jn
    · have lk : (i : Int) < (jn : Int) := by omega
      have hi6 : (i : Int) ≤ 100 := by omega
      obtain ⟨b, off, hja, hbl, hr⟩ := HJ.out.at' (by omega)
      have hr := hr i hlt
      obtain ⟨z, hz⟩ : ∃ z, z = (J i).by8 := ⟨_, rfl⟩
      obtain ⟨f, hf⟩ : ∃ f, f = (J i).fr := ⟨_, rfl⟩
      obtain ⟨gv, hgv⟩ : ∃ gv, gv = g0J J i := ⟨_, rfl⟩
      have HZ : Hid (z = (J i).by8) := hz
      have HGV : Hid (gv = g0J J i) := hgv
      have HIL : Hid (i < jn) := hlt
      have hwb : ∀ wz, w.grownBy wz none → wz.rangeAt b (off + i * 3) (tJ (J i)).cells := fun wz h => range_block hr (h.block b hbl (by simp))
      have CW : Hid (∀ w2, (wr.alloc (.cells #[.int .i64 (z : Nat)] 3)).grownBy w2 (Value.slice a1 0 c1).ownBlock → ∀ k v, (tJ (J i)).cells[k]? = some v → w2.cell? ⟨b, off + i * 3 + k, none⟩ = some v) := fun w2 g2 k v hv => by
        have hgx : w.grownBy w2 none := grown_far (grown_trans hg.out (World.grownBy_alloc wr (.cells #[.int .i64 (z : Nat)] 3) none)) g2 (fun q e => by have := hO1.out.new q e; have := HL0.out; omega)
        exact hwb w2 hgx k v hv
      have C0 : Hid (∀ w2, (wr.alloc (.cells #[.int .i64 (z : Nat)] 3)).grownBy w2 (Value.slice a1 0 c1).ownBlock → w2.cell? ⟨b, off + i * 3, none⟩ = some (.int .i64 (f : Nat))) := fun w2 g2 => by
        have := CW.out w2 g2 0 _ rfl
        simp only [Nat.add_zero, tJ] at this
        rw [hf]
        exact this
      have C2 : Hid (∀ w2, (wr.alloc (.cells #[.int .i64 (z : Nat)] 3)).grownBy w2 (Value.slice a1 0 c1).ownBlock → w2.cell? ⟨b, off + i * 3 + 2, none⟩ = some (.int .i64 (z : Nat))) := fun w2 g2 => by
        have := CW.out w2 g2 2 _ rfl
        simp only [tJ] at this
        rw [hz]
        exact this
      have d := hwb wr hg.out
      have c2' := d 2 _ rfl
      simp only [tJ] at c2'
      rw [← hz] at c2'
      subst hja
      by_cases hz0 : z = 0
      · have hgf : gv = (f : Int) := by rw [hgv]; unfold g0J; rw [if_pos (by omega), hf]
        have hzb : ((z : Int) == 0) = true := by rw [hz0]; rfl
        have HGF : Hid _ := hgf
        clear hr hz hf hgv hwb d hlt hi hbl
        subst hz0
        subst hgf
        clear HGF
        have HB1 : Hid (BxS (wr.alloc (.cells #[.int .i64 (0 : Nat)] 3)) wr.heap.size 3 #[.int .i64 ((fun j => ((J j).by8 : Int)) i)]) := by
          show BxS _ _ _ _
          rw [show ((fun j => ((J j).by8 : Int)) i) = ((0 : Nat) : Int) from (by show ((J i).by8 : Int) = _; rw [← HZ.out])]
          exact BxS.new wr 3 _
        have HO1 : Hid (OwI (wr.alloc (.cells #[.int .i64 (0 : Nat)] 3)) lo a1 i c1 (fun j => ((J j).by8 : Int))) := hO1.out.keep (World.grownBy_alloc wr (.cells #[.int .i64 (0 : Nat)] 3) none) (by simp)
        have HLO : Hid (lo ≤ (wr.alloc (.cells #[.int .i64 (0 : Nat)] 3)).heap.size) := Nat.le_trans hlo.out (World.grownBy_alloc wr (.cells #[.int .i64 (0 : Nat)] 3) none).size
        have HP2 : Hid (∀ w2, (wr.alloc (.cells #[.int .i64 (0 : Nat)] 3)).grownBy w2 (Value.slice a1 0 c1).ownBlock → OwI (w2.alloc (.cells #[.int .i64 (f : Int)] 3)) lo a2 i c2 (g0J J) ∧ lo ≤ (w2.alloc (.cells #[.int .i64 (f : Int)] 3)).heap.size ∧ BxS (w2.alloc (.cells #[.int .i64 (f : Int)] 3)) w2.heap.size 3 #[.int .i64 (g0J J i)]) := by
          intro w2 g2
          refine ⟨((hO2.out.keep (World.grownBy_alloc wr (.cells #[.int .i64 (0 : Nat)] 3) none) (by simp)).keep g2 (fun g e x => hne.out.1 g x e)).keep (World.grownBy_alloc w2 (.cells #[.int .i64 (f : Int)] 3) none) (by simp), ?_, ?_⟩
          · exact Nat.le_trans HLO.out (Nat.le_trans g2.size (World.grownBy_alloc w2 (.cells #[.int .i64 (f : Int)] 3) none).size)
          · rw [← HGV.out]
            exact BxS.new w2 3 _
        have HI1 : Hid (i ≤ 100000) := by show i ≤ 100000; omega
        have s0 : True := trivial
        go_wp2_with (first
          | (have _t := s0; clear s0; refine wpList_psOI rfl (.tmp 31) (.tmp 37) rfl a1 i c1 lo (fun j => ((J j).by8 : Int)) rfl HO1.out HLO.out wr.heap.size rfl HB1.out HI1.out ?_; intro a1' c1' w2 hO3 hor3 g2; have HP3 := HP2.out w2 g2; have HO3 : Hid _ := hO3; have HR3 : Hid _ := hor3; have HG2 : Hid _ := g2; have e0 : w2.cell? ⟨b, off + i * 3, none⟩ = some (.int .i64 (f : Nat)) := C0.out w2 g2; have e2 : w2.cell? ⟨b, off + i * 3 + 2, none⟩ = some (.int .i64 (0 : Nat)) := C2.out w2 g2; have HP4 : Hid _ := HP3; clear hO3 hor3 g2 HP3; have s1 : True := trivial)
          | (have _t := s1; clear s1; refine wpList_psOI rfl (.tmp 50) (.tmp 52) rfl a2 i c2 lo (g0J J) rfl HP4.out.1 HP4.out.2.1 w2.heap.size rfl HP4.out.2.2 HI1.out ?_; intro a2' c2' w4 hO5 hor5 g4))
        have gA := World.grownBy_alloc wr (.cells #[.int .i64 (0 : Nat)] 3) none
        have gB := World.grownBy_alloc w2 (.cells #[.int .i64 (f : Int)] 3) none
        have sA := gA.size
        have sB := gB.size
        have s2' := HG2.out.size
        have s4' := g4.size
        (try simp at sA)
        (try simp at sB)
        (try simp at s2')
        (try simp at s4')
        have l7 := InB.lt h7.out
        have nn1 : ∀ g, (Value.slice a1' 0 c1').ownBlock = some g → g ≠ g7 := fun g e => by
          rcases HR3.out g e with h | h
          · exact fun x => hne.out.2.1 (by rw [← x]; exact h)
          · (try simp at h)
            omega
        have nn2 : ∀ g, (Value.slice a2' 0 c2').ownBlock = some g → g ≠ g7 := fun g e => by
          rcases hor5 g e with h | h
          · exact fun x => hne.out.2.2 (by rw [← x]; exact h)
          · (try simp at h)
            omega
        have lt1 : ∀ g, (Value.slice a1' 0 c1').ownBlock = some g → g < w2.heap.size := fun g e => (HO3.out.own.lt g (by rw [ownB a1' (i + 1) 0 c1']; exact e)).2
        have lt2 : ∀ g, (Value.slice a2 0 c2).ownBlock = some g → g < wr.heap.size := fun g e => (hO2.out.own.lt g (by rw [ownB a2 i 0 c2]; exact e)).2
        have hd12 : ∀ g, (Value.slice a1' 0 c1').ownBlock = some g → (Value.slice a2' 0 c2').ownBlock ≠ some g := fun g e x => by
          rcases hor5 g x with h | h
          · rcases HR3.out g e with h' | h'
            · exact hne.out.1 g h' h
            · have := lt2 g h
              (try simp at h')
              omega
          · have := lt1 g e
            (try simp at h)
            omega
        refine ⟨⟨i + 1, a1', c1', a2', c2', HIL.out, by go_num, rfl, rfl, ?_, hO5, ⟨hd12, fun x => nn1 g7 x rfl, fun x => nn2 g7 x rfl⟩, ?_, ?_, ?_⟩, by have := HIL.out; simp [intOf] <;> omega⟩
        · exact (HO3.out.keep gB (by simp)).keep g4 (fun g e x => by
            rcases HR3.out g e with h' | h'
            · exact hne.out.1 g h' x
            · have := lt2 g x
              (try simp at h')
              omega)
        · show InB w4 g7 20000 _
          exact (((h7.out.keep gA (by simp)).keep HG2.out (fun x => hne.out.2.1 x.symm)).keep gB (by simp)).keep g4 (fun x => hne.out.2.2 x.symm)
        · show lo ≤ w4.heap.size
          have := hlo.out
          omega
        · exact grown_far (grown_trans (grown_far (grown_trans hg.out gA) HG2.out (fun q e => by have := hO1.out.new q e; have := HL0.out; omega)) gB) g4 (fun q e => by have := hO2.out.new q e; have := HL0.out; omega)
      · have hgf : gv = -1 := by rw [hgv]; unfold g0J; rw [if_neg (by omega)]
        have hzb : ((z : Int) == 0) = false := by
          have : ¬ (z : Int) = 0 := by omega
          exact beq_eq_false_iff_ne.2 this
        clear hr hz hf hgv hwb d hlt hi hbl hz0
        subst hgf
        have HB1 : Hid (BxS (wr.alloc (.cells #[.int .i64 (z : Nat)] 3)) wr.heap.size 3 #[.int .i64 ((fun j => ((J j).by8 : Int)) i)]) := by
          show BxS _ _ _ _
          rw [show ((fun j => ((J j).by8 : Int)) i) = ((z : Nat) : Int) from (by show ((J i).by8 : Int) = _; rw [← HZ.out])]
          exact BxS.new wr 3 _
        have HO1 : Hid (OwI (wr.alloc (.cells #[.int .i64 (z : Nat)] 3)) lo a1 i c1 (fun j => ((J j).by8 : Int))) := hO1.out.keep (World.grownBy_alloc wr (.cells #[.int .i64 (z : Nat)] 3) none) (by simp)
        have HLO : Hid (lo ≤ (wr.alloc (.cells #[.int .i64 (z : Nat)] 3)).heap.size) := Nat.le_trans hlo.out (World.grownBy_alloc wr (.cells #[.int .i64 (z : Nat)] 3) none).size
        have HP2 : Hid (∀ w2, (wr.alloc (.cells #[.int .i64 (z : Nat)] 3)).grownBy w2 (Value.slice a1 0 c1).ownBlock → OwI (w2.alloc (.cells #[.int .i64 (-1)] 3)) lo a2 i c2 (g0J J) ∧ lo ≤ (w2.alloc (.cells #[.int .i64 (-1)] 3)).heap.size ∧ BxS (w2.alloc (.cells #[.int .i64 (-1)] 3)) w2.heap.size 3 #[.int .i64 (g0J J i)]) := by
          intro w2 g2
          refine ⟨((hO2.out.keep (World.grownBy_alloc wr (.cells #[.int .i64 (z : Nat)] 3) none) (by simp)).keep g2 (fun g e x => hne.out.1 g x e)).keep (World.grownBy_alloc w2 (.cells #[.int .i64 (-1)] 3) none) (by simp), ?_, ?_⟩
          · exact Nat.le_trans HLO.out (Nat.le_trans g2.size (World.grownBy_alloc w2 (.cells #[.int .i64 (-1)] 3) none).size)
          · rw [← HGV.out]
            exact BxS.new w2 3 _
        have HI1 : Hid (i ≤ 100000) := by show i ≤ 100000; omega
        have s0 : True := trivial
        go_wp2_with (first
          | (have _t := s0; clear s0; refine wpList_psOI rfl (.tmp 31) (.tmp 37) rfl a1 i c1 lo (fun j => ((J j).by8 : Int)) rfl HO1.out HLO.out wr.heap.size rfl HB1.out HI1.out ?_; intro a1' c1' w2 hO3 hor3 g2; have HP3 := HP2.out w2 g2; have HO3 : Hid _ := hO3; have HR3 : Hid _ := hor3; have HG2 : Hid _ := g2; have e0 : w2.cell? ⟨b, off + i * 3, none⟩ = some (.int .i64 (f : Nat)) := C0.out w2 g2; have e2 : w2.cell? ⟨b, off + i * 3 + 2, none⟩ = some (.int .i64 (z : Nat)) := C2.out w2 g2; have HP4 : Hid _ := HP3; clear hO3 hor3 g2 HP3; have s1 : True := trivial)
          | (have _t := s1; clear s1; refine wpList_psOI rfl (.tmp 50) (.tmp 52) rfl a2 i c2 lo (g0J J) rfl HP4.out.1 HP4.out.2.1 w2.heap.size rfl HP4.out.2.2 HI1.out ?_; intro a2' c2' w4 hO5 hor5 g4))
        have gA := World.grownBy_alloc wr (.cells #[.int .i64 (z : Nat)] 3) none
        have gB := World.grownBy_alloc w2 (.cells #[.int .i64 (-1)] 3) none
        have sA := gA.size
        have sB := gB.size
        have s2' := HG2.out.size
        have s4' := g4.size
        (try simp at sA)
        (try simp at sB)
        (try simp at s2')
        (try simp at s4')
        have l7 := InB.lt h7.out
        have nn1 : ∀ g, (Value.slice a1' 0 c1').ownBlock = some g → g ≠ g7 := fun g e => by
          rcases HR3.out g e with h | h
          · exact fun x => hne.out.2.1 (by rw [← x]; exact h)
          · (try simp at h)
            omega
        have nn2 : ∀ g, (Value.slice a2' 0 c2').ownBlock = some g → g ≠ g7 := fun g e => by
          rcases hor5 g e with h | h
          · exact fun x => hne.out.2.2 (by rw [← x]; exact h)
          · (try simp at h)
            omega
        have lt1 : ∀ g, (Value.slice a1' 0 c1').ownBlock = some g → g < w2.heap.size := fun g e => (HO3.out.own.lt g (by rw [ownB a1' (i + 1) 0 c1']; exact e)).2
        have lt2 : ∀ g, (Value.slice a2 0 c2).ownBlock = some g → g < wr.heap.size := fun g e => (hO2.out.own.lt g (by rw [ownB a2 i 0 c2]; exact e)).2
        have hd12 : ∀ g, (Value.slice a1' 0 c1').ownBlock = some g → (Value.slice a2' 0 c2').ownBlock ≠ some g := fun g e x => by
          rcases hor5 g x with h | h
          · rcases HR3.out g e with h' | h'
            · exact hne.out.1 g h' h
            · have := lt2 g h
              (try simp at h')
              omega
          · have := lt1 g e
            (try simp at h)
            omega
        refine ⟨⟨i + 1, a1', c1', a2', c2', HIL.out, by go_num, rfl, rfl, ?_, hO5, ⟨hd12, fun x => nn1 g7 x rfl, fun x => nn2 g7 x rfl⟩, ?_, ?_, ?_⟩, by have := HIL.out; simp [intOf] <;> omega⟩
        · exact (HO3.out.keep gB (by simp)).keep g4 (fun g e x => by
            rcases HR3.out g e with h' | h'
            · exact hne.out.1 g h' x
            · have := lt2 g x
              (try simp at h')
              omega)
        · show InB w4 g7 20000 _
          exact (((h7.out.keep gA (by simp)).keep HG2.out (fun x => hne.out.2.1 x.symm)).keep gB (by simp)).keep g4 (fun x => hne.out.2.2 x.symm)
        · show lo ≤ w4.heap.size
          have := hlo.out
          omega
        · exact grown_far (grown_trans (grown_far (grown_trans hg.out gA) HG2.out (fun q e => by have := hO1.out.new q e; have := HL0.out; omega)) gB) g4 (fun q e => by have := hO2.out.new q e; have := HL0.out; omega)
    · obtain rfl : jn = i := by omega
      have lk : ¬ (jn : Int) < (jn : Int) := by omega
      go_wp2
      (try simp only [Exit.inBlock, Exit.then])
      have FIN : Hid (∀ {u0 u2 u3 u4 u5 u6 u10 u11 u12 u13 u14 u15 u16 u17 u18 u19 u20 u21 u22 u23 u24 u25 u26 u27 u28 u29 u30 u31 u32 u33 u34 u35 u36 u37 u38 u39 u40 u41 u42 u43 u44 u45 u46 u47 u48 u49 u50 u51 u52 u53 u54 u55 u56 u57 u58 u59 u60 u61 u62 u63 u64 u65 u66 u67 u68 u69 u70 u71 u72 u73 u74 u75 u76 u77 u78 u79 u80 u81 u82 u83 u84 u85 u86 u87 u88 u89 u90 u91 u92 u93 u94 u95 u96 u97 u98 u99 u100 u101 u102 u103 u104 u105 u106 u107 u108 u109 u110 u111 u112 u113 u114 u115 u116 u117 u118 u119 u120 u121 u122 u123 u124 u125 u126 u127 u128 u129 u130 u131 u132 : Value}, Code.wp Try.prog (tailR 14 (Try.f5.body.getD .skip)) (bodyPost Try.prog Try.f5 (fun e w' => ∃ ga gc, e = .returned (.tuple #[.slice ga jn gc, .int .i64 0]) ∧ OwI w' lo ga jn gc (goneN W J wn jn) ∧ w.grownBy w' none)) (Act.mk (List.toArray (u0 :: (.slice ja jn jc) :: u2 :: u3 :: u4 :: u5 :: u6 :: (.slice (some ⟨g7, 0, none⟩) 20000 20000) :: (.slice a1 jn c1) :: (.slice a2 jn c2) :: u10 :: u11 :: u12 :: u13 :: u14 :: u15 :: u16 :: u17 :: u18 :: u19 :: u20 :: u21 :: u22 :: u23 :: u24 :: u25 :: u26 :: u27 :: u28 :: u29 :: u30 :: u31 :: u32 :: u33 :: u34 :: u35 :: u36 :: u37 :: u38 :: u39 :: u40 :: u41 :: u42 :: u43 :: u44 :: u45 :: u46 :: u47 :: u48 :: u49 :: u50 :: u51 :: u52 :: u53 :: u54 :: u55 :: u56 :: u57 :: u58 :: u59 :: u60 :: u61 :: u62 :: u63 :: u64 :: u65 :: u66 :: u67 :: u68 :: u69 :: u70 :: u71 :: u72 :: u73 :: u74 :: u75 :: u76 :: u77 :: u78 :: u79 :: u80 :: u81 :: u82 :: u83 :: u84 :: u85 :: u86 :: u87 :: u88 :: u89 :: u90 :: u91 :: u92 :: u93 :: u94 :: u95 :: u96 :: u97 :: u98 :: u99 :: u100 :: u101 :: u102 :: u103 :: u104 :: u105 :: u106 :: u107 :: u108 :: u109 :: u110 :: u111 :: u112 :: u113 :: u114 :: u115 :: u116 :: u117 :: u118 :: u119 :: u120 :: u121 :: u122 :: u123 :: u124 :: u125 :: u126 :: u127 :: u128 :: u129 :: u130 :: u131 :: u132 :: [])) []) wr) := by
        intro u0 u2 u3 u4 u5 u6 u10 u11 u12 u13 u14 u15 u16 u17 u18 u19 u20 u21 u22 u23 u24 u25 u26 u27 u28 u29 u30 u31 u32 u33 u34 u35 u36 u37 u38 u39 u40 u41 u42 u43 u44 u45 u46 u47 u48 u49 u50 u51 u52 u53 u54 u55 u56 u57 u58 u59 u60 u61 u62 u63 u64 u65 u66 u67 u68 u69 u70 u71 u72 u73 u74 u75 u76 u77 u78 u79 u80 u81 u82 u83 u84 u85 u86 u87 u88 u89 u90 u91 u92 u93 u94 u95 u96 u97 u98 u99 u100 u101 u102 u103 u104 u105 u106 u107 u108 u109 u110 u111 u112 u113 u114 u115 u116 u117 u118 u119 u120 u121 u122 u123 u124 u125 u126 u127 u128 u129 u130 u131 u132
        exact ds_t14 _ w wr ja a1 a2 jn jc c1 c2 lo g7 J (rtW W wn) HJ.out HL0.out hO1.out hO2.out h7.out hne.out hg.out (by omega) (fun t => Nat.le_trans (rt_bd W t wn (fun i hi => (HM.out.w i hi).2.2)) (by have := HM.out.hw; omega)) (fun i => (HM.out.j i).2.2) (fun w' h1 h2 => ⟨a2, c2, rfl, h1, h2⟩)
      refine HK4.out _ _ ?_
      clear HK4
      exact FIN.out
end

section
/-- stretches from a beginning to an end suffice -/
theorem fit_need (W J : Nat → Jb) (wn jn : Nat) (hJ : ∀ i, i < jn → (J i).fr ≤ (J i).by' ∧ (J i).by' ≤ 20000) : fitB W J wn jn = true ↔ ∀ i, i < jn → ∀ j, j < jn → (J i).fr ≤ (J j).by' → okS W J wn jn (J i).fr (J j).by' := by
  rw [fit_iff W J wn jn hJ]
  constructor
  · intro h i hi j hj hle
    exact edf_need J jn (rtW W wn) h _ _ hle
  · intro h i hi
    refine Nat.eq_zero_of_not_pos fun hp => ?_
    obtain ⟨a, h1, h2⟩ := edf_miss J jn (rtW W wn) i hi hp
    obtain ⟨k, hk, h3, h4⟩ := edf_from J jn (rtW W wn) (fun x hx => (hJ x hx).1) a _ h1 h2
    have h5 := h k hk i hi h3
    unfold okS at h5
    omega
/-- sums of a row, so far -/
def pfS (r : Nat → Nat) (n : Nat) : Nat → Int := fun j => if j ≤ n then ((sumF r j : Nat) : Int) else 0
theorem pfS_step (r : Nat → Nat) (t : Nat) : atG (pfS r t) (t + 1) (((sumF r t : Nat) : Int) + ((r t : Nat) : Int)) = pfS r (t + 1) := by
  funext j
  unfold atG pfS
  by_cases h : j = t + 1
  · rw [if_pos h, h, if_pos (Nat.le_refl _)]
    have h3 : sumF r (t + 1) = sumF r t + r t := rfl
    rw [h3]
    omega
  · rw [if_neg h]
    by_cases h2 : j ≤ t
    · rw [if_pos h2, if_pos (by omega)]
    · rw [if_neg h2, if_neg (by omega)]
theorem pfS_zero (r : Nat → Nat) (i : Nat) : pfS r 0 i = 0 := by
  unfold pfS
  by_cases h : i ≤ 0
  · rw [if_pos h, show i = 0 by omega]; rfl
  · rw [if_neg h]
theorem pfS_at (r : Nat → Nat) (t : Nat) : pfS r t t = ((sumF r t : Nat) : Int) := if_pos (Nat.le_refl _)
set_option maxHeartbeats 8000000 in
theorem rshare_no (w : World) (wa ja : Option Addr) (wn wc jn jc : Nat) (F K : Nat → T3) (z : Int) (hW : RdT w wa wn wc F) (hJ : RdT w ja jn jc K) (hz : shE wn jn F K z) (hz0 : z ≠ 0) :
    Calls Try.prog 5 #[.slice wa wn wc, .slice ja jn jc] w fun e w' => e = .returned (.tuple #[.slice none 0 0, .int .i64 z]) ∧ w.grownBy w' none := by
  have W0 := (rshared_any w wa ja wn wc jn jc _ _ hW hJ).mono (R' := fun e w' => e = .returned (.int .i64 z) ∧ w.grownBy w' none) (fun e w' h => by
    obtain ⟨z1, h1, h2, h3⟩ := h
    rw [shE_uniq h2 hz] at h1
    exact ⟨h1, h3⟩)
  have hzb : (z == (0 : Int)) = false := beq_eq_false_iff_ne.2 hz0
  clear hW hJ hz hz0
  go_enter Try.func5, Try.ntmps5
  go_wp2_with (go_at_call 12; refine W0.mono ?_; rintro e w1 ⟨rfl, g1⟩)
  (try simp only [Exit.inBlock, Exit.then])
  first | go_ret | (refine bodyPost_ret (results_tmp2 rfl _ _ _) rfl ?_) | skip
  exact ⟨rfl, g1⟩
set_option maxHeartbeats 8000000 in
theorem fitted_no (w : World) (wa ja : Option Addr) (wn wc jn jc : Nat) (F K : Nat → T3) (z : Int) (hW : RdT w wa wn wc F) (hJ : RdT w ja jn jc K) (hz : shE wn jn F K z) (hz0 : z ≠ 0) :
    Calls Try.prog 7 #[.slice wa wn wc, .slice ja jn jc] w fun e w' => e = .returned (.tuple #[.bool false, .int .i64 z]) ∧ w.grownBy w' none := by
  have W0 := (rshared_any w wa ja wn wc jn jc _ _ hW hJ).mono (R' := fun e w' => e = .returned (.int .i64 z) ∧ w.grownBy w' none) (fun e w' h => by
    obtain ⟨z1, h1, h2, h3⟩ := h
    rw [shE_uniq h2 hz] at h1
    exact ⟨h1, h3⟩)
  have hzb : (z == (0 : Int)) = false := beq_eq_false_iff_ne.2 hz0
  clear hW hJ hz hz0
  go_enter Try.func7, Try.ntmps7
  go_wp2_with (go_at_call 12; refine W0.mono ?_; rintro e w1 ⟨rfl, g1⟩)
  (try simp only [Exit.inBlock, Exit.then])
  first | go_ret | (refine bodyPost_ret (results_tmp2 rfl _ _ _) rfl ?_) | skip
  exact ⟨rfl, g1⟩
end

section
set_option maxHeartbeats 32000000 in
theorem fi_t10 {u0 u2 u3 u6 u7 u9 u10 u11 u12 u13 u14 u15 u16 u17 u18 u19 u20 u21 u22 u23 u24 u25 u26 u27 u28 u29 u30 u31 u32 u33 u34 u35 u36 u37 u38 u39 u40 u41 u42 u43 u44 u45 u46 u47 u48 u49 u50 u51 u52 u53 u54 u55 u56 u57 u58 u59 u60 u61 u62 u63 u64 u65 u66 u67 u68 u69 u70 u71 u72 u73 u74 u75 u76 u77 u78 u79 u80 u81 u82 u83 u84 u85 u86 u87 u88 u89 u90 u91 u92 u93 u94 u95 u96 u97 u98 u99 u100 u101 u102 u103 u104 u105 u106 u107 u108 : Value} (P : Ending → World → Prop) (w0 w : World) (ja : Option Addr) (wn jn jc g8 : Nat) (W J : Nat → Jb) (hJ : RdT w0 ja jn jc (fun i => tJ (J i))) (hS : InB w g8 20001 (fun t => ((sumF (rtW W wn) t : Nat) : Int))) (hg0 : w0.grownBy w none) (hm : MayS W J wn jn) (hP : ∀ w', w0.grownBy w' none → P (.returned (.tuple #[.bool (fitB W J wn jn), .int .i64 0])) w') :
    Code.wp Try.prog (tailR 10 (Try.f7.body.getD .skip)) (bodyPost Try.prog Try.f7 P) (Act.mk (List.toArray (u0 :: (.slice ja jn jc) :: u2 :: u3 :: (.bool false) :: (.int .i64 0) :: u6 :: u7 :: (.slice (some ⟨g8, 0, none⟩) 20001 20001) :: u9 :: u10 :: u11 :: u12 :: u13 :: u14 :: u15 :: u16 :: u17 :: u18 :: u19 :: u20 :: u21 :: u22 :: u23 :: u24 :: u25 :: u26 :: u27 :: u28 :: u29 :: u30 :: u31 :: u32 :: u33 :: u34 :: u35 :: u36 :: u37 :: u38 :: u39 :: u40 :: u41 :: u42 :: u43 :: u44 :: u45 :: u46 :: u47 :: u48 :: u49 :: u50 :: u51 :: u52 :: u53 :: u54 :: u55 :: u56 :: u57 :: u58 :: u59 :: u60 :: u61 :: u62 :: u63 :: u64 :: u65 :: u66 :: u67 :: u68 :: u69 :: u70 :: u71 :: u72 :: u73 :: u74 :: u75 :: u76 :: u77 :: u78 :: u79 :: u80 :: u81 :: u82 :: u83 :: u84 :: u85 :: u86 :: u87 :: u88 :: u89 :: u90 :: u91 :: u92 :: u93 :: u94 :: u95 :: u96 :: u97 :: u98 :: u99 :: u100 :: u101 :: u102 :: u103 :: u104 :: u105 :: u106 :: u107 :: u108 :: [])) []) w := by
  conv => enter [2]; whnf
  have HP : Hid _ := hP
  have HM : Hid _ := hm
  have HJ : Hid _ := hJ
  have START : Hid (InB w g8 20001 (fun t => ((sumF (rtW W wn) t : Nat) : Int)) ∧ w0.grownBy w none) := ⟨hS, hg0⟩
  have HB : Hid (∀ t, sumF (rtW W wn) t ≤ t * 200000000) := fun t => sumF_bd _ _ (fun s => Nat.le_trans (rt_bd W s wn (fun i hi => (hm.w i hi).2.2)) (by have := hm.hw; omega)) t
  have HN : Hid (∀ k a b, need J k a b ≤ k * 1000000) := fun k a b => sumF_bd _ _ (fun i => by
    have := (hm.j i).2.2
    show (if _ then _ else _) ≤ _
    split
    · exact this
    · exact Nat.zero_le _) k
  have HFN : Hid _ := fit_need W J wn jn (fun i _ => ⟨(hm.j i).1, (hm.j i).2.1⟩)
  have HJN : Hid (jn ≤ 100) := hm.hj
  clear hP hm hJ hS hg0
  refine wp_seq_k fun K0 hK0 => ?_
  have HK0 : Hid _ := hK0
  clear hK0
  go_wp2
  go_loopw [10] (fun v10 wr => ∃ (i : Nat), i ≤ jn ∧ v10 = .int .i64 (i : Nat) ∧ Hid (∀ i', i' < i → ∀ j', j' < jn → (J i').fr ≤ (J j').by' → okS W J wn jn (J i').fr (J j').by') ∧ Hid (InB wr g8 20001 (fun t => ((sumF (rtW W wn) t : Nat) : Int))) ∧ Hid (w0.grownBy wr none)) (fun v10 _ => jn - (intOf v10).toNat)
  case atStart => exact ⟨0, Nat.zero_le _, rfl, (fun i' h => absurd h (by omega)), START.out.1, START.out.2⟩
  case round =>
    clear START
    obtain ⟨i, hi, rfl, hall, hS, hg⟩ := hrel
    by_cases hlt : i < jn
    · have lk : (i : Int) < (jn : Int) := by omega
      have hi6 : (i : Int) ≤ 100 := by have := HJN.out; omega
      have HIL : Hid (i < jn) := hlt
      clear hlt hi
      go_wp2
      go_loopw [11] (fun v11 wx => ∃ (j : Nat), j ≤ jn ∧ v11 = .int .i64 (j : Nat) ∧ Hid (∀ j', j' < j → (J i).fr ≤ (J j').by' → okS W J wn jn (J i).fr (J j').by') ∧ Hid (InB wx g8 20001 (fun t => ((sumF (rtW W wn) t : Nat) : Int))) ∧ Hid (w0.grownBy wx none)) (fun v11 _ => jn - (intOf v11).toNat)
      case atStart => exact ⟨0, Nat.zero_le _, rfl, (fun j' h => absurd h (by omega)), hS.out, hg.out⟩
      case round =>
        clear hS hg
        obtain ⟨j, hj, rfl, hal2, hS, hg⟩ := hrel
        by_cases hlt2 : j < jn
        · have lk2 : (j : Int) < (jn : Int) := by omega
          have hj6 : (j : Int) ≤ 100 := by have := HJN.out; omega
          have HJL : Hid (j < jn) := hlt2
          have hil := HIL.out
          obtain ⟨bl, off, hja, _, hr⟩ := (HJ.out.keep hg.out).at' (by omega)
          have hri := hr i hil
          have hrj := hr j hlt2
          have c0 := hri 0 _ rfl
          have e1 := hrj 1 _ rfl
          simp only [Nat.add_zero, tJ] at c0 e1
          obtain ⟨a, ha⟩ : ∃ a, a = (J i).fr := ⟨_, rfl⟩
          obtain ⟨b, hb⟩ : ∃ b, b = (J j).by' := ⟨_, rfl⟩
          have HAE : Hid ((J i).fr = a) := ha.symm
          have HBE : Hid ((J j).by' = b) := hb.symm
          rw [← ha] at c0
          rw [← hb] at e1
          have hma := (HM.out.j i)
          have hmb := (HM.out.j j)
          have ha7 : a ≤ 20000 := by omega
          have hb7 : b ≤ 20000 := by omega
          have hai : (a : Int) ≤ 20000 := by omega
          have hbi : (b : Int) ≤ 20000 := by omega
          have HAB7 : Hid (a ≤ 20000 ∧ b ≤ 20000) := ⟨ha7, hb7⟩
          have HJA : Hid (ja = some ⟨bl, off, none⟩) := hja
          subst hja
          clear hr hri hrj ha hb hma hmb hil hj hlt2 ha7 hb7
          go_upto_region 16 with fail
          go_quiet (fail)
          have GQ := grown_drewN wr nq none
          generalize wr.drewN nq = w9 at *
          have HG9 : Hid (w0.grownBy w9 none) := grown_trans hg.out GQ
          have HS9 : Hid (InB w9 g8 20001 (fun t => ((sumF (rtW W wn) t : Nat) : Int))) := InB.keep hS.out GQ (by simp)
          clear GQ hS hg c0 e1
          go_wp2
          go_loopw [15, 14] (fun v15 v14 wz => ∃ (k y : Nat), k ≤ jn ∧ v15 = .int .i64 (k : Nat) ∧ v14 = .int .i64 (y : Nat) ∧ Hid (y = need J k a b) ∧ Hid (InB wz g8 20001 (fun t => ((sumF (rtW W wn) t : Nat) : Int))) ∧ Hid (w0.grownBy wz none)) (fun v15 v14 _ => jn - (intOf v15).toNat)
          case atStart => exact ⟨0, 0, Nat.zero_le _, rfl, rfl, (rfl : _ = _), HS9.out, HG9.out⟩
          case round =>
            clear HS9 HG9
            obtain ⟨k, y, hk, rfl, rfl, hy, hS, hg⟩ := hrel
            have hyb : y ≤ 100000000 := by have := hy.out; have := HN.out k a b; have := HJN.out; omega
            have hyi : (y : Int) ≤ 100000000 := by omega
            clear hyb
            by_cases hlt4 : k < jn
            · have lk6 : (k : Int) < (jn : Int) := by omega
              have hk6 : (k : Int) ≤ 100 := by have := HJN.out; omega
              obtain ⟨bl2, off2, hja2, _, hr⟩ := (HJ.out.keep hg.out).at' (by omega)
              obtain ⟨rfl, rfl⟩ : bl = bl2 ∧ off = off2 := by cases hja2; exact ⟨rfl, rfl⟩
              have hr := hr k hlt4
              have c0 := hr 0 _ rfl
              have c1 := hr 1 _ rfl
              have c2 := hr 2 _ rfl
              simp only [Nat.add_zero, tJ] at c0 c1 c2
              have hns : Hid (need J (k + 1) a b = y + (if a ≤ (J k).fr ∧ (J k).by' ≤ b then (J k).by8 else 0)) := by show _ = _; rw [hy.out]; rfl
              have hz := (HM.out.j k).2.2
              obtain ⟨f, hf⟩ : ∃ f, f = (J k).fr := ⟨_, rfl⟩
              obtain ⟨t, ht⟩ : ∃ t, t = (J k).by' := ⟨_, rfl⟩
              obtain ⟨z, hzz⟩ : ∃ z, z = (J k).by8 := ⟨_, rfl⟩
              rw [← hf] at c0 hns
              rw [← ht] at c1 hns
              rw [← hzz] at c2 hns hz
              have hzi : (z : Int) ≤ 1000000 := by omega
              have HKL : Hid (k < jn) := hlt4
              clear hja2 hr hf ht hzz hz hlt4 hk hy
              by_cases h1 : a ≤ f
              · have l1 : (a : Int) ≤ (f : Int) := by omega
                by_cases h2 : t ≤ b
                · have l2 : (t : Int) ≤ (b : Int) := by omega
                  have HE : Hid (need J (k + 1) a b = y + z) := by show _ = _; rw [hns.out, if_pos ⟨h1, h2⟩]
                  go_wp2
                  exact ⟨⟨k + 1, y + z, HKL.out, by go_num, by go_num, by show _ = _; rw [HE.out], hS.out, hg.out⟩, by have := HKL.out; simp [intOf] <;> omega⟩
                · have l2 : ¬ (t : Int) ≤ (b : Int) := by omega
                  have HE : Hid (need J (k + 1) a b = y) := by show _ = _; rw [hns.out, if_neg (fun h => h2 h.2)]; rfl
                  go_wp2
                  exact ⟨⟨k + 1, y, HKL.out, by go_num, rfl, by show _ = _; rw [HE.out], hS.out, hg.out⟩, by have := HKL.out; simp [intOf] <;> omega⟩
              · have l1 : ¬ (a : Int) ≤ (f : Int) := by omega
                have HE : Hid (need J (k + 1) a b = y) := by show _ = _; rw [hns.out, if_neg (fun h => h1 h.1)]; rfl
                go_wp2
                exact ⟨⟨k + 1, y, HKL.out, by go_num, rfl, by show _ = _; rw [HE.out], hS.out, hg.out⟩, by have := HKL.out; simp [intOf] <;> omega⟩
            · obtain rfl : jn = k := by omega
              have lk6 : ¬ (jn : Int) < (jn : Int) := by omega
              go_upto_region 23 with fail
              by_cases hab : a ≤ b
              · have lab : (a : Int) ≤ (b : Int) := by omega
                have ab7 := HAB7.out
                have hba := HB.out a
                have hbb := HB.out b
                have y1 := InB.cell hS.out (show a < 20001 by omega)
                have y2 := InB.cell hS.out (show b < 20001 by omega)
                have hmo := sumF_mono (rtW W wn) a (b - a)
                rw [show a + (b - a) = b by omega] at hmo
                have HOK : Hid (okS W J wn jn a b ↔ y + sumF (rtW W wn) a ≤ sumF (rtW W wn) b) := by
                  show _ ↔ _
                  rw [hy.out]
                  exact Iff.rfl
                obtain ⟨sa, hsa⟩ : ∃ sa, sa = sumF (rtW W wn) a := ⟨_, rfl⟩
                obtain ⟨sb, hsb⟩ : ∃ sb, sb = sumF (rtW W wn) b := ⟨_, rfl⟩
                rw [← hsa] at y1 HOK hba hmo
                rw [← hsb] at y2 HOK hbb hmo
                have sai : (sa : Int) ≤ 4000000000000 := by omega
                have sbi : (sb : Int) ≤ 4000000000000 := by omega
                have hwp : IntKind.i64.wrap ((sb : Int) - (sa : Int)) = (sb : Int) - (sa : Int) := wrap_inP _ (by omega) (by omega)
                have ai : (a : Int) < 20001 := by omega
                have bi : (b : Int) < 20001 := by omega
                have an : a < 20001 := by omega
                have bn : b < 20001 := by omega
                by_cases hle : y + sa ≤ sb
                · have l9 : ¬ (sb : Int) - (sa : Int) < (y : Int) := by omega
                  have HYES : Hid (okS W J wn jn a b) := HOK.out.2 hle
                  clear ab7 hba hbb hmo hsa hsb hle hk
                  go_quiet (fail)
                  have GQ := grown_drewN wr nq none
                  generalize wr.drewN nq = w9 at *
                  have HG9 : Hid (w0.grownBy w9 none) := grown_trans hg.out GQ
                  have HS9 : Hid (InB w9 g8 20001 (fun t => ((sumF (rtW W wn) t : Nat) : Int))) := InB.keep hS.out GQ (by simp)
                  clear GQ hS hg y1 y2
                  go_wp2
                  exact ⟨⟨j + 1, HJL.out, by go_num, (fun j' h1 h2 => by
                    by_cases e : j' = j
                    · subst e
                      rw [HAE.out, HBE.out]
                      exact HYES.out
                    · exact hal2.out j' (by omega) h2), HS9.out, HG9.out⟩, by have := HJL.out; simp [intOf] <;> omega⟩
                · have l9 : (sb : Int) - (sa : Int) < (y : Int) := by omega
                  have HNO : Hid (fitB W J wn jn = false) := by
                    show _ = _
                    cases hf : fitB W J wn jn with
                    | false => rfl
                    | true =>
                      have h5 := HFN.out.1 hf i HIL.out j HJL.out (by rw [HAE.out, HBE.out]; exact hab)
                      rw [HAE.out, HBE.out] at h5
                      exact absurd (HOK.out.1 h5) hle
                  have HP2 : Hid (∀ w', w0.grownBy w' none → P (.returned (.tuple #[.bool false, .int .i64 0])) w') := fun w' h => by
                    have := HP.out w' h
                    rw [HNO.out] at this
                    exact this
                  clear ab7 hba hbb hmo hsa hsb hle hk
                  go_quiet (fail)
                  have GQ := grown_drewN wr nq none
                  generalize wr.drewN nq = w9 at *
                  have HG9 : Hid (w0.grownBy w9 none) := grown_trans hg.out GQ
                  clear GQ hS hg y1 y2
                  go_wp2
                  (try simp only [Exit.inBlock, Exit.then])
                  first | go_ret | (refine bodyPost_ret (results_tmp2 rfl _ _ _) rfl ?_) | skip
                  exact HP2.out _ HG9.out
              · have lab : ¬ (a : Int) ≤ (b : Int) := by omega
                have HNAB : Hid (¬ a ≤ b) := hab
                clear hab hk
                go_quiet (fail)
                have GQ := grown_drewN wr nq none
                generalize wr.drewN nq = w9 at *
                have HG9 : Hid (w0.grownBy w9 none) := grown_trans hg.out GQ
                have HS9 : Hid (InB w9 g8 20001 (fun t => ((sumF (rtW W wn) t : Nat) : Int))) := InB.keep hS.out GQ (by simp)
                clear GQ hS hg
                go_wp2
                exact ⟨⟨j + 1, HJL.out, by go_num, (fun j' h1 h2 => by
                  by_cases e : j' = j
                  · subst e
                    rw [HAE.out, HBE.out] at h2
                    exact absurd h2 HNAB.out
                  · exact hal2.out j' (by omega) h2), HS9.out, HG9.out⟩, by have := HJL.out; simp [intOf] <;> omega⟩
        · obtain rfl : jn = j := by omega
          have lk2 : ¬ (jn : Int) < (jn : Int) := by omega
          go_wp2
          exact ⟨⟨i + 1, HIL.out, by go_num, (fun i' h1 j' h2 h3 => by
            by_cases e : i' = i
            · subst e
              exact hal2.out j' h2 h3
            · exact hall.out i' (by omega) j' h2 h3), hS.out, hg.out⟩, by have := HIL.out; simp [intOf] <;> omega⟩
    · obtain rfl : jn = i := by omega
      have lk : ¬ (jn : Int) < (jn : Int) := by omega
      have HYF : Hid (fitB W J wn jn = true) := HFN.out.2 hall.out
      have HP2 : Hid (∀ w', w0.grownBy w' none → P (.returned (.tuple #[.bool true, .int .i64 0])) w') := fun w' h => by
        have := HP.out w' h
        rw [HYF.out] at this
        exact this
      go_wp2
      (try simp only [Exit.inBlock, Exit.then])
      refine HK0.out _ _ ?_
      clear HK0
      go_wp2
      (try simp only [Exit.inBlock, Exit.then])
      first | go_ret | (refine bodyPost_ret (results_tmp2 rfl _ _ _) rfl ?_) | skip
      exact HP2.out _ hg.out
end
end Go.Proofs.Ytnjdbbjhplebhaa
