import Derived.Test.YtnjdbbjhplebhaaPs16
import Derived.Test.YtnjdbbjhplebhaaPs1
import Derived.Deep.DeepAppendWide
namespace Go.Proofs.Ytnjdbbjhplebhaa
open Go.RowKit
set_option maxRecDepth 100000
set_option linter.unusedVariables false
set_option linter.unusedSimpArgs false

section
set_option maxHeartbeats 32000000 in
theorem fitted_ok (w : World) (wa ja : Option Addr) (wn wc jn jc : Nat) (W J : Nat → Jb) (hW : RdT w wa wn wc (fun i => tJ (W i))) (hJ : RdT w ja jn jc (fun i => tJ (J i))) (hm : MayS W J wn jn) :
    Calls Try.prog 7 #[.slice wa wn wc, .slice ja jn jc] w fun e w' => e = .returned (.tuple #[.bool (fitB W J wn jn), .int .i64 0]) ∧ w.grownBy w' none := by
  have W0 := (rshared_any w wa ja wn wc jn jc _ _ hW hJ).mono (R' := fun e w' => e = .returned (.int .i64 0) ∧ w.grownBy w' none) (fun e w' h => by
    obtain ⟨z, h1, h2, h3⟩ := h
    have hno : ¬ (200 < wn ∨ 100 < jn) := by have := hm.hw; have := hm.hj; omega
    have hz := h2.2.2 hno (fun h => by
      rcases h with ⟨i, hi, hb⟩ | ⟨i, hi, hb⟩
      · rw [t3B_J (hm.w i hi)] at hb; cases hb
      · rw [t3B_J (hm.j i)] at hb; cases hb)
    rw [hz] at h1
    exact ⟨h1, h3⟩)
  have R0 : ∀ w1, w.grownBy w1 none → _ := fun w1 g => rates_any w1 wa wn wc W (hW.keep g) hm.w hm.hw
  have HM : Hid _ := hm
  have HJ : Hid _ := hJ
  have HR0 : Hid _ := R0
  obtain ⟨lo, hlo0⟩ : ∃ lo, lo = w.heap.size := ⟨_, rfl⟩
  have HL0 : Hid (lo = w.heap.size) := hlo0
  have HB : Hid (∀ t, sumF (rtW W wn) t ≤ t * 200000000) := fun t => sumF_bd _ _ (fun s => Nat.le_trans (rt_bd W s wn (fun i hi => (hm.w i hi).2.2)) (by have := hm.hw; omega)) t
  have HB1 : Hid (∀ t, rtW W wn t ≤ 200000000) := fun t => Nat.le_trans (rt_bd W t wn (fun i hi => (hm.w i hi).2.2)) (by have := hm.hw; omega)
  clear hW hJ hm R0 hlo0
  go_enter Try.func7, Try.ntmps7
  refine wp_seq_k fun K0 hK0 => ?_
  have HK0 : Hid _ := hK0
  clear hK0
  go_wp2
  refine HK0.out _ _ ?_
  clear HK0
  refine wp_seq_k fun K1 hK1 => ?_
  have HK1 : Hid _ := hK1
  clear hK1
  go_wp2_with (go_at_call 12; refine W0.mono ?_; rintro e w1 ⟨rfl, g1⟩)
  refine HK1.out _ _ ?_
  clear HK1
  have R1 := HR0.out w1 g1
  have HG1 : Hid _ := g1
  clear g1
  refine wp_seq_k fun K2 hK2 => ?_
  have HK2 : Hid _ := hK2
  clear hK2
  go_wp2_with (go_at_call 13; refine R1.mono ?_; rintro e w2 ⟨g7, rfl, hi7, hl7, g2⟩)
  have H7 : Hid _ := hi7
  have HG2 : Hid (w.grownBy w2 none) := grown_trans HG1.out g2
  clear hi7 hl7 g2 R1
  refine HK2.out _ _ ?_
  clear HK2
  refine wp_seq_k fun K3 hK3 => ?_
  have HK3 : Hid _ := hK3
  clear hK3
  have s0 : True := trivial
  go_wp2_with (first
    | (at_make; have _t := s0; clear s0; refine wpList_mkIn rfl _ _ rfl 20001 rfl rfl (by decide) ?_; intro w3 hi3 g3))
  obtain ⟨g8, hg8⟩ : ∃ g8, g8 = w2.heap.size := ⟨_, rfl⟩
  rw [← hg8] at hi3 ⊢
  have HNE : Hid (g7 ≠ g8) := by have := InB.lt H7.out; show g7 ≠ g8; omega
  have HLG : Hid (w.heap.size ≤ g8) := by have := HG2.out.size; show _ ≤ g8; omega
  have HI3 : Hid (InB w3 g8 20001 (pfS (rtW W wn) 0)) := InB.eq hi3 (fun i _ => (pfS_zero _ i).symm)
  have HI7 : Hid (InB w3 g7 20000 (fun u => (rtW W wn u : Int))) := InB.keep H7.out g3 (by simp)
  have HG3 : Hid (w.grownBy w3 none) := grown_trans HG2.out g3
  clear hg8 hi3 g3 H7 HG2
  refine HK3.out _ _ ?_
  clear HK3
  refine wp_seq_k fun K4 hK4 => ?_
  have HK4 : Hid _ := hK4
  clear hK4
  go_wp2
  go_loopw [9] (fun v9 wr => ∃ t : Nat, t ≤ 20000 ∧ v9 = .int .i64 (t : Nat) ∧ Hid (InB wr g8 20001 (pfS (rtW W wn) t)) ∧ Hid (InB wr g7 20000 (fun u => (rtW W wn u : Int))) ∧ Hid (w.grownBy wr none)) (fun v9 _ => 20000 - (intOf v9).toNat)
  case atStart => exact ⟨0, Nat.zero_le _, rfl, HI3.out, HI7.out, HG3.out⟩
  case round =>
    clear HI3 HI7 HG3
    obtain ⟨t, ht, rfl, hI, h7, hg⟩ := hrel
    by_cases hlt : t < 20000
    · have lk : (t : Int) < 20000 := by omega
      have HT0 : Hid (t < 20000) := hlt
      have HT1 : Hid (t < 20001) := by show t < 20001; omega
      obtain ⟨t1, ht1⟩ : ∃ t1, t1 = t + 1 := ⟨_, rfl⟩
      have HT2 : Hid (t1 < 20001) := by show t1 < 20001; omega
      have HTE : Hid (t1 = t + 1) := ht1
      have hst := pfS_step (rtW W wn) t
      rw [← ht1] at hst
      have hat := pfS_at (rtW W wn) t
      have b1 := HB.out t
      have b2 := HB1.out t
      obtain ⟨s, hs⟩ : ∃ s, s = sumF (rtW W wn) t := ⟨_, rfl⟩
      obtain ⟨r, hr⟩ : ∃ r, r = rtW W wn t := ⟨_, rfl⟩
      have HRQ : Hid (((rtW W wn t : Nat) : Int) = (r : Int)) := by show _ = _; rw [← hr]
      rw [← hs] at hst hat b1
      rw [← hr] at hst b2
      have HSQ : Hid (pfS (rtW W wn) t t = (s : Int)) := hat
      have HST : Hid (atG (pfS (rtW W wn) t) t1 ((s : Int) + (r : Int)) = pfS (rtW W wn) t1) := hst
      have si : (s : Int) ≤ 4000000000000 := by omega
      have ri : (r : Int) ≤ 200000000 := by omega
      have hwq : IntKind.i64.wrap ((s : Int) + (r : Int)) = (s : Int) + (r : Int) := wrap_inP _ (by omega) (by omega)
      have hwt : IntKind.i64.wrap ((t : Int) + 1) = (t1 : Int) := by rw [wrap_inP _ (by omega) (by omega)]; omega
      have t21 : t1 < 20001 := by omega
      have t21i : (t1 : Int) < 20001 := by omega
      have t20i : (t : Int) < 20001 := by omega
      clear ht1 hst hat hs hr b1 b2 ht
      go_upto_region 9 with fail
      have Gd := grown_drew wr none
      have SSn : InB wr.drew g8 20001 (pfS (rtW W wn) t) ∧ InB wr.drew g7 20000 (fun u => (rtW W wn u : Int)) := ⟨InB.keep hI.out Gd (by simp), InB.keep h7.out Gd (by simp)⟩
      refine wp_regionM (fun wz => InB wz g8 20001 (pfS (rtW W wn) t) ∧ InB wz g7 20000 (fun u => (rtW W wn u : Int))) [13] #[false, false, false, false, false, false, false, false, false, false, false, false, false, false] rfl (by kernel_rfl) ?_
      have HWD : Hid (wr.grownBy wr.drew none) := Gd
      generalize wr.drew = wd at *
      have SS := SSn
      clear Gd
      refine wpAnyY_takeF 0 (.slice (some ⟨g8, 0, none⟩) 20001 20001) rfl (by kernel_rfl) (fun _ _ _ h => h) rfl (by intro wz; go_simp; try rfl) ?_
      try simp only [List.getElem_toArray, List.getElem_cons_succ, List.getElem_cons_zero, Act.put, List.setIfInBounds_toArray, List.set_cons_zero, List.set_cons_succ]
      refine wpAnyY_takeF 1 (.int .i64 (t : Nat)) rfl (by kernel_rfl) (fun _ _ _ h => h) rfl (by intro wz; go_simp; try rfl) ?_
      try simp only [List.getElem_toArray, List.getElem_cons_succ, List.getElem_cons_zero, Act.put, List.setIfInBounds_toArray, List.set_cons_zero, List.set_cons_succ]
      refine wpAnyY_takeF 2 (.int .i64 (t1 : Nat)) rfl (by kernel_rfl) (fun _ _ _ h => h) rfl (by intro wz; go_simp; try rfl) ?_
      try simp only [List.getElem_toArray, List.getElem_cons_succ, List.getElem_cons_zero, Act.put, List.setIfInBounds_toArray, List.set_cons_zero, List.set_cons_succ]
      refine wpAnyY_takeF 3 (.slice (some ⟨g8, 0, none⟩) 20001 20001) rfl (by kernel_rfl) (fun _ _ _ h => h) rfl (by intro wz; go_simp; try rfl) ?_
      try simp only [List.getElem_toArray, List.getElem_cons_succ, List.getElem_cons_zero, Act.put, List.setIfInBounds_toArray, List.set_cons_zero, List.set_cons_succ]
      refine wpAnyY_takeF 4 (.int .i64 (t : Nat)) rfl (by kernel_rfl) (fun _ _ _ h => h) rfl (by intro wz; go_simp; try rfl) ?_
      try simp only [List.getElem_toArray, List.getElem_cons_succ, List.getElem_cons_zero, Act.put, List.setIfInBounds_toArray, List.set_cons_zero, List.set_cons_succ]
      refine wpAnyY_takeF 5 (.pointer (some ⟨g8, t, none⟩)) rfl (by kernel_rfl) (fun _ _ _ h => h) rfl (by intro wz; go_simp; try rfl) ?_
      try simp only [List.getElem_toArray, List.getElem_cons_succ, List.getElem_cons_zero, Act.put, List.setIfInBounds_toArray, List.set_cons_zero, List.set_cons_succ]
      refine wpAnyY_take [13] 6 (.int .i64 (s : Nat)) rfl (by kernel_rfl) (fun _ _ _ h => h) SS rfl (by rintro wz ⟨z1, z2⟩; have hc := InB.cell z1 HT1.out; rw [HSQ.out] at hc; go_simp) ?_
      try simp only [List.getElem_toArray, List.getElem_cons_succ, List.getElem_cons_zero, Act.put, List.setIfInBounds_toArray, List.set_cons_zero, List.set_cons_succ]
      refine wpAnyY_takeF 7 (.slice (some ⟨g7, 0, none⟩) 20000 20000) rfl (by kernel_rfl) (fun _ _ _ h => h) rfl (by intro wz; go_simp; try rfl) ?_
      try simp only [List.getElem_toArray, List.getElem_cons_succ, List.getElem_cons_zero, Act.put, List.setIfInBounds_toArray, List.set_cons_zero, List.set_cons_succ]
      refine wpAnyY_takeF 8 (.int .i64 (t : Nat)) rfl (by kernel_rfl) (fun _ _ _ h => h) rfl (by intro wz; go_simp; try rfl) ?_
      try simp only [List.getElem_toArray, List.getElem_cons_succ, List.getElem_cons_zero, Act.put, List.setIfInBounds_toArray, List.set_cons_zero, List.set_cons_succ]
      refine wpAnyY_takeF 9 (.pointer (some ⟨g7, t, none⟩)) rfl (by kernel_rfl) (fun _ _ _ h => h) rfl (by intro wz; go_simp; try rfl) ?_
      try simp only [List.getElem_toArray, List.getElem_cons_succ, List.getElem_cons_zero, Act.put, List.setIfInBounds_toArray, List.set_cons_zero, List.set_cons_succ]
      refine wpAnyY_take [13] 10 (.int .i64 (r : Nat)) rfl (by kernel_rfl) (fun _ _ _ h => h) SS rfl (by rintro wz ⟨z1, z2⟩; have hc := InB.cell z2 HT0.out; rw [HRQ.out] at hc; go_simp) ?_
      try simp only [List.getElem_toArray, List.getElem_cons_succ, List.getElem_cons_zero, Act.put, List.setIfInBounds_toArray, List.set_cons_zero, List.set_cons_succ]
      refine wpAnyY_takeF 11 (.int .i64 ((s : Int) + (r : Int))) rfl (by kernel_rfl) (fun _ _ _ h => h) rfl (by intro wz; go_simp; try rfl) ?_
      try simp only [List.getElem_toArray, List.getElem_cons_succ, List.getElem_cons_zero, Act.put, List.setIfInBounds_toArray, List.set_cons_zero, List.set_cons_succ]
      refine wpAnyY_takeF 12 (.pointer (some ⟨g8, t1, none⟩)) rfl (by kernel_rfl) (fun _ _ _ h => h) rfl (by intro wz; go_simp; try rfl) ?_
      try simp only [List.getElem_toArray, List.getElem_cons_succ, List.getElem_cons_zero, Act.put, List.setIfInBounds_toArray, List.set_cons_zero, List.set_cons_succ]
      refine wpAnyY_oneB 13 rfl (by kernel_rfl) (fun KK hKK => ?_)
      refine step_of_listR rfl (wpList_stI rfl (.tmp 41) (.tmp 40) rfl g8 20001 t1 _ ((s : Int) + (r : Int)) rfl rfl SSn.1 HT2.out ?_)
      intro w4 hi4 g4
      refine wpList_nil ?_
      show KK _ _
      refine hKK _ _ (fun _ h => absurd (by decide) h) ?_
      try simp only [List.getElem_toArray, List.getElem_cons_succ, List.getElem_cons_zero, Act.put, List.setIfInBounds_toArray, List.set_cons_zero, List.set_cons_succ]
      refine wpAnyY_doneB (by kernel_rfl) ?_ _
      (try simp only [Exit.then, Exit.inBlock])
      rw [HST.out] at hi4
      have HI4 : Hid _ := hi4
      have H74 : Hid (InB w4 g7 20000 (fun u => (rtW W wn u : Int))) := InB.keep SSn.2 g4 (fun x => HNE.out (by cases x; rfl))
      have HG4 : Hid (w.grownBy w4 none) := grown_far (grown_trans hg.out HWD.out) g4 (fun q e => by cases e; exact HLG.out)
      clear SS SSn hi4 g4 hI hg h7
      go_wp2
      exact ⟨⟨t1, by have := HT0.out; have := HTE.out; omega, by first | rfl | go_num, HI4.out, H74.out, HG4.out⟩, by have := HT0.out; have := HTE.out; simp [intOf] <;> omega⟩
    · obtain rfl : t = 20000 := by omega
      go_wp2
      (try simp only [Exit.inBlock, Exit.then])
      have FIN : Hid (∀ {u0 u2 u3 u6 u7 u9 u10 u11 u12 u13 u14 u15 u16 u17 u18 u19 u20 u21 u22 u23 u24 u25 u26 u27 u28 u29 u30 u31 u32 u33 u34 u35 u36 u37 u38 u39 u40 u41 u42 u43 u44 u45 u46 u47 u48 u49 u50 u51 u52 u53 u54 u55 u56 u57 u58 u59 u60 u61 u62 u63 u64 u65 u66 u67 u68 u69 u70 u71 u72 u73 u74 u75 u76 u77 u78 u79 u80 u81 u82 u83 u84 u85 u86 u87 u88 u89 u90 u91 u92 u93 u94 u95 u96 u97 u98 u99 u100 u101 u102 u103 u104 u105 u106 u107 u108 : Value}, Code.wp Try.prog (tailR 10 (Try.f7.body.getD .skip)) (bodyPost Try.prog Try.f7 (fun e w' => e = .returned (.tuple #[.bool (fitB W J wn jn), .int .i64 0]) ∧ w.grownBy w' none)) (Act.mk (List.toArray (u0 :: (.slice ja jn jc) :: u2 :: u3 :: (.bool false) :: (.int .i64 0) :: u6 :: u7 :: (.slice (some ⟨g8, 0, none⟩) 20001 20001) :: u9 :: u10 :: u11 :: u12 :: u13 :: u14 :: u15 :: u16 :: u17 :: u18 :: u19 :: u20 :: u21 :: u22 :: u23 :: u24 :: u25 :: u26 :: u27 :: u28 :: u29 :: u30 :: u31 :: u32 :: u33 :: u34 :: u35 :: u36 :: u37 :: u38 :: u39 :: u40 :: u41 :: u42 :: u43 :: u44 :: u45 :: u46 :: u47 :: u48 :: u49 :: u50 :: u51 :: u52 :: u53 :: u54 :: u55 :: u56 :: u57 :: u58 :: u59 :: u60 :: u61 :: u62 :: u63 :: u64 :: u65 :: u66 :: u67 :: u68 :: u69 :: u70 :: u71 :: u72 :: u73 :: u74 :: u75 :: u76 :: u77 :: u78 :: u79 :: u80 :: u81 :: u82 :: u83 :: u84 :: u85 :: u86 :: u87 :: u88 :: u89 :: u90 :: u91 :: u92 :: u93 :: u94 :: u95 :: u96 :: u97 :: u98 :: u99 :: u100 :: u101 :: u102 :: u103 :: u104 :: u105 :: u106 :: u107 :: u108 :: [])) []) wr) := by
        intro u0 u2 u3 u6 u7 u9 u10 u11 u12 u13 u14 u15 u16 u17 u18 u19 u20 u21 u22 u23 u24 u25 u26 u27 u28 u29 u30 u31 u32 u33 u34 u35 u36 u37 u38 u39 u40 u41 u42 u43 u44 u45 u46 u47 u48 u49 u50 u51 u52 u53 u54 u55 u56 u57 u58 u59 u60 u61 u62 u63 u64 u65 u66 u67 u68 u69 u70 u71 u72 u73 u74 u75 u76 u77 u78 u79 u80 u81 u82 u83 u84 u85 u86 u87 u88 u89 u90 u91 u92 u93 u94 u95 u96 u97 u98 u99 u100 u101 u102 u103 u104 u105 u106 u107 u108
        exact fi_t10 _ w wr ja wn jn jc g8 W J HJ.out (InB.eq hI.out (fun i hi => if_pos (by omega))) hg.out HM.out (fun w' h => ⟨rfl, h⟩)
      refine HK4.out _ _ ?_
      clear HK4
      exact FIN.out
end

section
theorem RdT.eq {w : World} {a : Option Addr} {n c : Nat} {F K : Nat → T3} (h : RdT w a n c F) (e : ∀ i, i < n → F i = K i) : RdT w a n c K :=
  ⟨h.le, h.max, fun h0 => by
    obtain ⟨b, off, ea, hb, hc⟩ := h.at' h0
    exact ⟨b, off, ea, hb, fun i hi => by rw [← e i hi]; exact hc i hi⟩⟩
theorem met_trip {w : World} {full : Bool} {n : Nat} {cs : List Value} (h : (Sh.fcons 1 (.int .i64) (.fcons 1 (.int .i64) (.fcons 1 (.int .i64) .fend))).met w full cs n) : ∃ p : T3, cs = p.cells := by
  obtain ⟨n0, m0, rfl, ⟨_, a, e0, k0⟩, n1, m1, rfl, ⟨_, b, e1, k1⟩, n2, m2, rfl, ⟨_, c, e2, k2⟩, e3, _⟩ := h
  refine ⟨⟨a, b, c⟩, ?_⟩
  unfold T3.cells
  match cs with
  | [] => simp at e0
  | [_] => simp at e1
  | [_, _] => simp at e2
  | [x0, x1, x2] => simp_all
  | x0 :: x1 :: x2 :: x3 :: r => simp at e3
theorem shown_trip {w : World} {full : Bool} {N : Nat} {v : Value} (h : (Sh.slice 3 24 (Sh.fcons 1 (.int .i64) (.fcons 1 (.int .i64) (.fcons 1 (.int .i64) .fend)))).shown w full v N) : ∃ a len cap K, v = .slice a len cap ∧ RdT w a len cap K ∧ (a = none → cap = 0) ∧ (full = true → cap * 24 ≤ reachBytes) := by
  have h : (Sh.slice 3 24 (Sh.fcons 1 (.int .i64) (.fcons 1 (.int .i64) (.fcons 1 (.int .i64) .fend)))).met w full [v] N := h
  rcases h with ⟨rfl, e⟩ | ⟨x, len, cap, G, C, e, e', hl, hm, hf, hc⟩
  · cases e
    exact ⟨none, 0, 0, fun _ => ⟨0, 0, 0⟩, rfl, ⟨Nat.le_refl _, Nat.zero_le _, (fun h => by omega)⟩, fun _ => rfl, fun _ => Nat.zero_le _⟩
  · cases e
    have each : ∀ i, i < cap → ∃ p : T3, (∀ j, j < 3 → w.cell? (x.add (i * 3 + j)) = p.cells[j]?) := by
      intro i hi
      obtain ⟨h1, h2, h3⟩ := hc i hi
      obtain ⟨p, e⟩ := met_trip h3
      refine ⟨p, fun j hj => ?_⟩
      rw [h2 j hj, e]
    have hI : Inhabited T3 := ⟨⟨0, 0, 0⟩⟩
    obtain ⟨K, hK⟩ := Go.Deep.choose_lt each
    refine ⟨some x, len, cap, K, rfl, ⟨hl, hm, fun h0 => ?_⟩, (fun h => by cases h), hf⟩
    obtain ⟨b, off, spot⟩ := x
    have hc0 := hK 0 (by omega) 0 (by decide)
    have h0' : w.cell? (⟨b, off, spot⟩ : Addr) = some (.int .i64 (K 0).x) := by simpa [Addr.add, T3.cells] using hc0
    have hspot : spot = none := by simpa using World.cell?_spot h0'
    subst hspot
    refine ⟨b, off, rfl, World.block_lt_of_cell? w _ h0', fun i hi j v hv => ?_⟩
    have hj : j < 3 := (List.getElem?_eq_some_iff.1 hv).1
    have := hK i (by omega) j hj
    rw [addr_add, hv] at this
    rw [Nat.add_assoc]
    exact this
def flC (F : Nat → T3) : Nat → List Value
  | 0 => []
  | n + 1 => flC F n ++ (F n).cells
theorem flC_len (F : Nat → T3) : ∀ n, (flC F n).length = n * 3
  | 0 => rfl
  | n + 1 => by rw [show flC F (n + 1) = flC F n ++ (F n).cells from rfl, List.length_append, flC_len F n]; show n * 3 + 3 = _; omega
theorem flC_at (F : Nat → T3) (i j : Nat) (hj : j < 3) : ∀ n, i < n → (flC F n)[i * 3 + j]? = (F i).cells[j]?
  | 0, h => absurd h (by omega)
  | n + 1, h => by
    rw [show flC F (n + 1) = flC F n ++ (F n).cells from rfl]
    by_cases e : i = n
    · subst e
      rw [List.getElem?_append_right (by rw [flC_len]; omega), flC_len]
      congr 1
      omega
    · rw [List.getElem?_append_left (by rw [flC_len]; omega)]
      exact flC_at F i j hj n (by omega)
theorem flC_one (F : Nat → T3) : ∀ n, ∀ u ∈ flC F n, u.oneCell' = true
  | 0, u, h => by cases h
  | n + 1, u, h => by
    rw [show flC F (n + 1) = flC F n ++ (F n).cells from rfl] at h
    rcases List.mem_append.1 h with h | h
    · exact flC_one F n u h
    · simp only [T3.cells, List.mem_cons, List.not_mem_nil, or_false] at h
      rcases h with rfl | rfl | rfl <;> rfl
theorem own_rdC {t : TypeId} {w : World} {base n : Nat} {v : Value} {F : Nat → T3} (h : w.ownsRow base t 3 v n (flC F n)) : ∃ a c, v = .slice a n c ∧ RdT w a n c F := by
  have hown := h
  rcases h.2 with ⟨h1, h2⟩ | ⟨g, cap', cur, h1, _, h3, h4, h5, h6, h7⟩
  · subst h2
    exact ⟨none, 0, h1, Nat.le_refl _, Nat.zero_le _, fun h0 => by omega⟩
  · refine ⟨some ⟨g, 0, none⟩, cap', h1, h4, h5, fun h0 => ⟨g, 0, rfl, (Array.getElem?_eq_some_iff.1 h3).1, fun i hi j v' hv => ?_⟩⟩
    have hj : j < 3 := (List.getElem?_eq_some_iff.1 hv).1
    rw [← flC_at F i j hj n hi] at hv
    subst h1
    have := hown.cells (g := g) rfl (i * 3 + j) v' hv
    rw [addr_add] at this
    rw [Nat.add_assoc]
    exact this
theorem wpList_clT {w : World} {ops : Array Oper} {rest : List Oper} {o : Oper} {ac : Act} {Q : Exit → Act → World → Prop} (hg : o.guard = none) (x : Operand) (ts t : TypeId) (ht : Try.prog.underlying ts = some (.slice t))
    (hi : (Try.prog.info? t).map (fun i => (i.zero, i.size, i.bytes)) = some (some (.agg #[.int .i64 0, .int .i64 0, .int .i64 0]), 3, 24))
    (hop : o.op = Op.call { callee := .builtin .append, args := #[.const (.slice none 0 0), x], argTypes := #[ts, ts] }) (ax : Option Addr) (nx cx : Nat) (F : Nat → T3) (hx : ac.eval x = .slice ax nx cx)
    (hR : RdT w ax nx cx F) (hn : ax = none → cx = 0) (hb : cx * 24 ≤ reachBytes)
    (hK : ∀ a' c' w', RdT w' a' nx c' F → w.grownBy w' none → wpList Try.prog ops Q rest (ac.put o.dst (.slice a' nx c')) w') :
    wpList Try.prog ops Q (o :: rest) ac w := by
  obtain ⟨i0, hi, hz0, hz1, hz2⟩ := info_parts3 hi
  have hb' : nx * 24 ≤ 140737488351232 := by have := hR.le; unfold reachBytes at hb; omega
  cases ax with
  | none =>
    have hc0 : cx = 0 := hn rfl
    have hn0 : nx = 0 := by have := hR.le; omega
    subst hc0 hn0
    refine wpList_append_own_none hg (.const (.slice none 0 0)) x ts hop 0 t i0 3 ht hi (.slice none 0 0) 0 [] rfl (World.ownsRow_nil _ _ _ _) hx ?_
    exact hK none 0 w ⟨Nat.le_refl _, Nat.zero_le _, fun h => by omega⟩ (World.grownBy.refl _ _)
  | some ad =>
    refine wpList_append_own_wide w hg (.const (.slice none 0 0)) x ts hop 0 t i0 (.agg #[.int .i64 0, .int .i64 0, .int .i64 0]) 3 24 ht hi hz0 hz1 hz2 rfl (by decide) (.slice none 0 0) 0 [] rfl (World.ownsRow_nil _ _ _ _) ad nx cx (flC F nx) hx (flC_len F nx) ?_ (flC_one F nx) (by unfold maxLen; omega) (by omega) (Nat.zero_le _) ?_
    · intro j u hu
      have hj : j < nx * 3 := by rw [← flC_len F nx]; exact (List.getElem?_eq_some_iff.1 hu).1
      obtain ⟨b, off, e, _, hc⟩ := hR.at' (by omega)
      cases e
      rw [show j = (j / 3) * 3 + j % 3 by omega, flC_at F (j / 3) (j % 3) (by omega) nx (by omega)] at hu
      have := hc (j / 3) (by omega) (j % 3) u hu
      rw [addr_add, show off + j = off + j / 3 * 3 + j % 3 by omega]
      exact this
    · intro v' w' hown hgr _
      rw [Nat.zero_add, List.nil_append] at hown
      obtain ⟨a', c', rfl, h2⟩ := own_rdC hown
      exact hK a' c' w' h2 hgr
/-- numbers as they are read -/
def RdC (w : World) (a : Option Addr) (n : Nat) (G : Nat → Int) : Prop := 0 < n → ∃ g, a = some ⟨g, 0, none⟩ ∧ g < w.heap.size ∧ ∀ j, j < n → w.cell? ⟨g, j, none⟩ = some (.int .i64 (G j))
theorem RdC.keep {w w' : World} {a : Option Addr} {n : Nat} {G : Nat → Int} {r : Option Nat} (h : RdC w a n G) (hg : w.grownBy w' r) (hr : ∀ g, a = some ⟨g, 0, none⟩ → r ≠ some g) : RdC w' a n G := fun h0 => by
  obtain ⟨g, e, hl, hc⟩ := h h0
  exact ⟨g, e, Nat.lt_of_lt_of_le hl hg.size, fun j hj => (World.cell?_of_block (w := w) (hg.block g hl (fun x => hr g e x.symm))).trans (hc j hj)⟩
theorem OwI.rdC {w : World} {lo : Nat} {a : Option Addr} {n c : Nat} {G : Nat → Int} (h : OwI w lo a n c G) : RdC w a n G := fun h0 => by
  obtain ⟨g, e, hl, _, hc⟩ := h.at' h0
  exact ⟨g, e, hl, hc⟩
theorem OwI.eq {w : World} {lo : Nat} {a : Option Addr} {n c : Nat} {G H : Nat → Int} (h : OwI w lo a n c G) (e : ∀ i, i < n → G i = H i) : OwI w lo a n c H :=
  ⟨by
    have := h.own
    rw [show inL G n = inL H n from List.map_congr_left fun i hi => by rw [e i (List.mem_range.1 hi)]] at this
    exact this, h.new⟩
theorem InB.ow {w : World} {lo g n : Nat} {G : Nat → Int} (h : InB w g n G) (hl : lo ≤ g) (hm : n ≤ maxLen) : OwI w lo (some ⟨g, 0, none⟩) n n G :=
  ⟨⟨by rw [inL_len, Nat.mul_one], .inr ⟨g, n, _, rfl, Nat.zero_le _, h, Nat.le_refl _, hm, by show (inL G n).toArray.size = _; rw [List.size_toArray, inL_len, Nat.mul_one], by
    show (inL G n).toArray.toList.take _ = _
    rw [List.take_of_length_le (by show (inL G n).length ≤ _; rw [inL_len]; omega)]⟩⟩, fun g' e => by
    have e : g = g' := Option.some.inj e
    omega⟩
set_option maxHeartbeats 8000000 in
theorem same_any (w : World) (a b : Option Addr) (n c d : Nat) (G : Nat → Int) (hA : RdC w a n G) (hB : RdC w b n G) (hn : n ≤ 100) :
    Calls Try.prog 9 #[.slice a n c, .slice b n d] w fun e w' => e = .returned (.bool true) ∧ w.grownBy w' none := by
  have HA : Hid _ := hA
  have HB : Hid _ := hB
  have HN : Hid _ := hn
  clear hA hB hn
  go_enter Try.func9, Try.ntmps9
  go_wp2
  go_loopw [5] (fun v5 wr => ∃ i : Nat, i ≤ n ∧ v5 = .int .i64 (i : Nat) ∧ Hid (w.grownBy wr none)) (fun v5 _ => n - (intOf v5).toNat)
  case atStart => exact ⟨0, Nat.zero_le _, rfl, World.grownBy.refl _ _⟩
  case round =>
    obtain ⟨i, hi, rfl, hg⟩ := hrel
    by_cases hlt : i < n
    · have lk : (i : Int) < (n : Int) := by omega
      have hi6 : (i : Int) ≤ 100 := by have := HN.out; omega
      obtain ⟨g, e1, _, h1⟩ := RdC.keep HA.out hg.out (by simp) (by omega)
      obtain ⟨h, e2, _, h2⟩ := RdC.keep HB.out hg.out (by simp) (by omega)
      have c1 := h1 i hlt
      have c2 := h2 i hlt
      have HIL : Hid (i < n) := hlt
      subst e1
      subst e2
      clear h1 h2 hi
      generalize G i = x at *
      go_upto_region 6 with fail
      go_quiet (fail)
      have GQ := grown_drewN wr nq none
      generalize wr.drewN nq = w9 at *
      have HG9 : Hid (w.grownBy w9 none) := grown_trans hg.out GQ
      clear GQ
      go_wp2
      exact ⟨⟨i + 1, HIL.out, by go_num, HG9.out⟩, by have := HIL.out; simp [intOf] <;> omega⟩
    · obtain rfl : n = i := by omega
      have lk : ¬ (n : Int) < (n : Int) := by omega
      go_wp2
      (try simp only [Exit.inBlock, Exit.then])
      first | go_ret | (refine bodyPost_ret (results_tmp rfl _ _ _) rfl ?_) | skip
      exact ⟨rfl, hg.out⟩
end

section
set_option maxHeartbeats 8000000 in
theorem over_own (mk : Int) (a : Option Addr) (n cap lo : Nat) (G : Nat → Int) (w : World) (h : OwI w lo a n cap G) (hlo : lo ≤ w.heap.size) (hn : n ≤ 100) :
    Calls Try.prog 10 #[.slice a n cap, .int .i64 mk] w fun e w' => e = .returned (.tuple #[]) ∧ w.grownBy w' (Value.slice a 0 cap).ownBlock := by
  have HA : Hid _ := h
  have HN : Hid (n ≤ 100) := hn
  have HLO : Hid (lo ≤ w.heap.size) := hlo
  clear h hn hlo
  go_enter Try.func10, Try.ntmps10
  go_wp2
  go_loopw [4] (fun v4 wr => ∃ (k : Nat) (H : Nat → Int), k ≤ n ∧ v4 = .int .i64 (k : Nat) ∧ Hid (w.grownBy wr (Value.slice a 0 cap).ownBlock) ∧ Hid (OwI wr lo a n cap H)) (fun v4 _ => n - (intOf v4).toNat)
  case atStart => exact ⟨0, G, Nat.zero_le _, rfl, World.grownBy.refl _ _, HA.out⟩
  case round =>
    clear HA
    obtain ⟨k, H, hk, rfl, hg, hA⟩ := hrel
    by_cases hlt : k < n
    · have lk : (k : Int) < (n : Int) := by omega
      have hk6 : (k : Int) ≤ 100 := by have := HN.out; omega
      obtain ⟨g, e, _, _, _⟩ := hA.out.at' hlt
      have HIL : Hid (k < n) := hlt
      subst e
      clear hlt hk
      have s0 : True := trivial
      go_wp2_with (first
        | (have _t := s0; clear s0; refine wpList_stOI rfl (.tmp 15) (.tmp 14) rfl g lo n cap k H mk rfl rfl hA.out HIL.out ?_; intro w2 hO2 g2))
      exact ⟨⟨k + 1, _, HIL.out, by go_num, grown_trans hg.out g2, hO2⟩, by have := HIL.out; simp [intOf] <;> omega⟩
    · obtain rfl : n = k := by omega
      have lk : ¬ (n : Int) < (n : Int) := by omega
      clear hk
      go_wp2
      go_loopw [0, 5] (fun v0 v5 wq => ∃ (q m : Nat) (b : Option Addr) (c : Nat) (H : Nat → Int), q ≤ 20 ∧ m = n + q ∧ v5 = .int .i64 (q : Nat) ∧ v0 = .slice b m c ∧ Hid (w.grownBy wq (Value.slice a 0 cap).ownBlock) ∧ Hid (OwI wq 0 b m c H) ∧ Hid (∀ y, (Value.slice b 0 c).ownBlock = some y → (Value.slice a 0 cap).ownBlock = some y ∨ w.heap.size ≤ y)) (fun _ v5 _ => 20 - (intOf v5).toNat)
      case atStart => exact ⟨0, n, a, cap, H, by omega, rfl, rfl, rfl, hg.out, ⟨hA.out.own, fun _ _ => Nat.zero_le _⟩, fun y hy => .inl hy⟩
      case round =>
        clear hA hg
        obtain ⟨q, m, b, c, H, hq, hmq, rfl, rfl, hg, hA, hb⟩ := hrel
        by_cases hlq : q < 20
        · have lq : (q : Int) < 20 := by omega
          have HMQ : Hid (m = n + q) := hmq
          have HM1 : Hid (m ≤ 100000) := by have := HN.out; show m ≤ _; omega
          have HQL : Hid (q < 20) := hlq
          have HO1 : Hid (OwI (wr.alloc (.cells #[.int .i64 mk] 3)) 0 b m c (fun j => if j < m then H j else mk)) := (OwI.eq hA.out (fun i hi => (if_pos hi).symm)).keep (World.grownBy_alloc wr (.cells #[.int .i64 mk] 3) none) (by simp)
          have HB1 : Hid (BxS (wr.alloc (.cells #[.int .i64 mk] 3)) wr.heap.size 3 #[.int .i64 ((fun j => if j < m then H j else mk) m)]) := by
            show BxS _ _ _ _
            rw [show ((fun j => if j < m then H j else mk) m) = mk from if_neg (by omega)]
            exact BxS.new wr 3 _
          clear hq hmq hlq
          have s0 : True := trivial
          go_wp2_with (first
            | (have _t := s0; clear s0; refine wpList_psOI rfl (.tmp 20) (.tmp 22) rfl b m c 0 _ rfl HO1.out (Nat.zero_le _) wr.heap.size rfl HB1.out HM1.out ?_; intro b2 c2 w2 hO2 hor g2))
          have g1 := World.grownBy_alloc wr (.cells #[.int .i64 mk] 3) none
          have hgA : w.grownBy (wr.alloc (.cells #[.int .i64 mk] 3)) (Value.slice a 0 cap).ownBlock := grown_trans hg.out (grown_weak g1 _)
          have hsz := hgA.size
          refine ⟨⟨q + 1, m + 1, b2, c2, _, by have := HQL.out; omega, by have := HMQ.out; omega, by go_num, rfl, ?_, hO2, ?_⟩, by have := HQL.out; simp [intOf] <;> omega⟩
          · show w.grownBy w2 _
            cases hbo : (Value.slice b 0 c).ownBlock with
            | none => rw [hbo] at g2; exact grown_trans hgA (grown_weak g2 _)
            | some y => rw [hbo] at g2; exact grown_new hgA g2 (hb.out y hbo)
          · intro y hy
            rcases hor y hy with h | h
            · exact hb.out y h
            · exact .inr (by omega)
        · obtain rfl : q = 20 := by omega
          go_wp2
          (try simp only [Exit.inBlock, Exit.then])
          first | go_end0 | go_ret | skip
          exact ⟨rfl, hg.out⟩
theorem shE_some (wn jn : Nat) (F K : Nat → T3) : ∃ z, shE wn jn F K z := by
  by_cases h1 : 200 < wn ∨ 100 < jn
  · exact ⟨1, fun _ => rfl, fun h => absurd h1 h, fun h => absurd h1 h⟩
  · by_cases h2 : (∃ i, i < wn ∧ t3B (F i) = false) ∨ (∃ i, i < jn ∧ t3B (K i) = false)
    · exact ⟨2, fun h => absurd h h1, fun _ _ => rfl, fun _ h => absurd h2 h⟩
    · exact ⟨0, fun h => absurd h h1, fun _ h => absurd h h2, fun _ _ => rfl⟩
/-- rows that may be, as numbers -/
def mkJ (F : Nat → T3) (n i : Nat) : Jb := if i < n then ⟨(F i).x.toNat, (F i).y.toNat, (F i).z.toNat⟩ else ⟨0, 0, 0⟩
theorem mkJ_is (F : Nat → T3) (n i : Nat) (h : i < n) (hb : t3B (F i) = true) : F i = tJ (mkJ F n i) := by
  have hb := (t3B_iff _).1 hb
  unfold mkJ
  rw [if_pos h]
  generalize F i = p at *
  obtain ⟨x, y, z⟩ := p
  show T3.mk x y z = T3.mk (x.toNat : Int) (y.toNat : Int) (z.toNat : Int)
  have hb : 0 ≤ x ∧ x ≤ y ∧ y ≤ 20000 ∧ 0 ≤ z ∧ z ≤ 1000000 := hb
  rw [Int.toNat_of_nonneg (by omega), Int.toNat_of_nonneg (by omega), Int.toNat_of_nonneg (by omega)]
theorem mkJ_bd (F : Nat → T3) (n i : Nat) (hb : i < n → t3B (F i) = true) : (mkJ F n i).fr ≤ (mkJ F n i).by' ∧ (mkJ F n i).by' ≤ 20000 ∧ (mkJ F n i).by8 ≤ 1000000 := by
  unfold mkJ
  by_cases h : i < n
  · have hb := (t3B_iff _).1 (hb h)
    rw [if_pos h]
    show (F i).x.toNat ≤ (F i).y.toNat ∧ (F i).y.toNat ≤ 20000 ∧ (F i).z.toNat ≤ 1000000
    omega
  · rw [if_neg h]
    exact ⟨Nat.le_refl _, Nat.zero_le _, Nat.zero_le _⟩
set_option maxHeartbeats 8000000 in
/-- whatever is given, all four answer alike -/
theorem four_any (wn jn : Nat) (F K : Nat → T3) : ∃ (z : Int) (N : Nat) (G : Nat → Int) (fb : Bool), N ≤ 100 ∧
    (∀ (w : World) wa wc ja jc, RdT w wa wn wc F → RdT w ja jn jc K → Calls Try.prog 5 #[.slice wa wn wc, .slice ja jn jc] w fun e w' => ∃ ga gc, e = .returned (.tuple #[.slice ga N gc, .int .i64 z]) ∧ OwI w' w.heap.size ga N gc G ∧ w.grownBy w' none) ∧
    (∀ (w : World) wa wc ja jc, RdT w wa wn wc F → RdT w ja jn jc K → Calls Try.prog 6 #[.slice wa wn wc, .slice ja jn jc] w fun e w' => ∃ ga gc, e = .returned (.tuple #[.slice ga N gc, .int .i64 z]) ∧ OwI w' w.heap.size ga N gc G ∧ w.grownBy w' none) ∧
    (∀ (w : World) wa wc ja jc, RdT w wa wn wc F → RdT w ja jn jc K → Calls Try.prog 7 #[.slice wa wn wc, .slice ja jn jc] w fun e w' => e = .returned (.tuple #[.bool fb, .int .i64 z]) ∧ w.grownBy w' none) ∧
    (∀ (w : World) wa wc ja jc, RdT w wa wn wc F → RdT w ja jn jc K → Calls Try.prog 8 #[.slice wa wn wc, .slice ja jn jc] w fun e w' => e = .returned (.tuple #[.bool fb, .int .i64 z]) ∧ w.grownBy w' none) := by
  obtain ⟨z, hz⟩ := shE_some wn jn F K
  by_cases hz0 : z = 0
  · subst hz0
    have h1 : ¬ (200 < wn ∨ 100 < jn) := fun h => by have := hz.1 h; cases this
    have h2 : ¬ ((∃ i, i < wn ∧ t3B (F i) = false) ∨ (∃ i, i < jn ∧ t3B (K i) = false)) := fun h => by have := hz.2.1 h1 h; cases this
    have hF : ∀ i, i < wn → t3B (F i) = true := fun i hi => by
      cases e : t3B (F i) with
      | true => rfl
      | false => exact absurd (.inl ⟨i, hi, e⟩) h2
    have hK : ∀ i, i < jn → t3B (K i) = true := fun i hi => by
      cases e : t3B (K i) with
      | true => rfl
      | false => exact absurd (.inr ⟨i, hi, e⟩) h2
    have hm : MayS (mkJ F wn) (mkJ K jn) wn jn := ⟨by omega, by omega, fun i hi => mkJ_bd F wn i (hF i), fun i => mkJ_bd K jn i (hK i)⟩
    refine ⟨0, jn, goneN (mkJ F wn) (mkJ K jn) wn jn, fitB (mkJ F wn) (mkJ K jn) wn jn, by omega, ?_, ?_, ?_, ?_⟩
    · intro w wa wc ja jc hW hJ
      exact rshare_ok w wa ja wn wc jn jc (mkJ F wn) (mkJ K jn) (hW.eq fun i hi => mkJ_is F wn i hi (hF i hi)) (hJ.eq fun i hi => mkJ_is K jn i hi (hK i hi)) hm
    · intro w wa wc ja jc hW hJ
      refine (share_ok w wa ja wn wc jn jc (mkJ F wn) (mkJ K jn) (hW.eq fun i hi => mkJ_is F wn i hi (hF i hi)) (hJ.eq fun i hi => mkJ_is K jn i hi (hK i hi)) hm (sorts_100 jn hm.hj)).mono ?_
      rintro e w' ⟨ga, he, hi, hl, hg⟩
      exact ⟨some ⟨ga, 0, none⟩, jn, he, InB.ow hi hl (by unfold maxLen; omega), hg⟩
    · intro w wa wc ja jc hW hJ
      exact fitted_ok w wa ja wn wc jn jc (mkJ F wn) (mkJ K jn) (hW.eq fun i hi => mkJ_is F wn i hi (hF i hi)) (hJ.eq fun i hi => mkJ_is K jn i hi (hK i hi)) hm
    · intro w wa wc ja jc hW hJ
      exact fits_ok w wa ja wn wc jn jc (mkJ F wn) (mkJ K jn) (hW.eq fun i hi => mkJ_is F wn i hi (hF i hi)) (hJ.eq fun i hi => mkJ_is K jn i hi (hK i hi)) hm (sorts_100 jn hm.hj)
  · refine ⟨z, 0, fun _ => 0, false, Nat.zero_le _, ?_, ?_, ?_, ?_⟩
    · intro w wa wc ja jc hW hJ
      exact (rshare_no w wa ja wn wc jn jc F K z hW hJ hz hz0).mono fun e w' h => ⟨none, 0, h.1, OwI.nil _ _ _, h.2⟩
    · intro w wa wc ja jc hW hJ
      exact (share_no w wa ja wn wc jn jc F K z hW hJ hz hz0).mono fun e w' h => ⟨none, 0, h.1, OwI.nil _ _ _, h.2⟩
    · intro w wa wc ja jc hW hJ
      exact fitted_no w wa ja wn wc jn jc F K z hW hJ hz hz0
    · intro w wa wc ja jc hW hJ
      exact fits_no w wa ja wn wc jn jc F K z hW hJ hz hz0
end
end Go.Proofs.Ytnjdbbjhplebhaa
