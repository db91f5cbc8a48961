import Derived.Test.YtbgbohddkfaacaaCPri
namespace Go.Proofs.Ytbgbohddkfaacaa
open Go.RowKit
set_option maxRecDepth 100000
set_option linter.unusedVariables false
set_option linter.unusedSimpArgs false

theorem cnt_mono (r : Nat) {k m : Nat} (h : k ≤ m) : cntN r k ≤ cntN r m := by
  induction m with
  | zero => obtain rfl : k = 0 := by omega
            exact Nat.le_refl _
  | succ m ih =>
    by_cases e : k = m + 1
    · subst e; exact Nat.le_refl _
    · have := ih (by omega)
      have e2 : cntN r (m + 1) = cntN r m + kn (kb (pF r) m) + kn (kb (pS r) m) := rfl
      omega
theorem two_sets (w3 : World) (g ty n i : Nat) (f : Nat → Int) (u v : Int) (o : Obj) (h : IRow w3 g ty n f) :
    IRow (((w3.setCell ⟨g, i, none⟩ (.int .i64 u)).setCell ⟨g, i + 1, none⟩ (.int .i64 v)).alloc o).drew g ty n (fun j => if j = i + 1 then v else if j = i then u else f j) ∧
    w3.grownBy (((w3.setCell ⟨g, i, none⟩ (.int .i64 u)).setCell ⟨g, i + 1, none⟩ (.int .i64 v)).alloc o).drew (some g) :=
  ⟨((((h.set i u).set (i + 1) v).keep (World.grownBy_alloc _ _ _)).keep (grown_drew _ _)), grown_trans (grown_trans (grown_trans (grown_set _ _ _ _) (grown_set _ _ _ _)) (World.grownBy_alloc _ _ _)) (grown_drew _ _)⟩
set_option maxHeartbeats 8000000 in
theorem mkpricer_any (b off n cap N r : Nat) (S : List Int) (w : World) (hS : RdI w (some ⟨b, off, none⟩) n cap S) (hb : b < w.heap.size) (hN : N ≤ 20000) (hn : n = cntN r N) (hn0 : 0 < n) (h1 : 1 ≤ r) (h2 : r ≤ 5) (hSb : ∀ i, -7 ≤ nthI S i ∧ nthI S i ≤ 7) :
    Calls Try.prog 44 #[.slice (some ⟨b, off, none⟩) n cap, .int .i64 N, patV r] w fun e w' => ∃ gv gp, e = .returned (.func (.func 57) #[] #[.pointer (some ⟨gv, 0, none⟩)]) ∧ Pri w' gv gp N (prV r S) ∧ w.heap.size ≤ gv ∧ w.heap.size ≤ gp ∧ w.grownBy w' none := by
  have hmf : ∀ (fn : Fn) (first cap : Array Value) (w : World), (Instr.makeFunc fn first cap).run Try.prog w = .ok (.func fn first cap) w := fun _ _ _ _ => rfl
  have HN : Hid (n = cntN r N) := hn
  clear hn
  unfold patV
  have hb0 := box_new w r
  have hg0 := World.grownBy_alloc w (.cells #[.string (pF r), .string (pS r)] 60) none
  have hle := hS.le; have hmx := hS.max
  unfold maxLen at hmx
  go_enter Try.func44, Try.ntmps44
  go_wp2_with (at_make; refine wpList_mkP _ rfl _ _ rfl N rfl rfl hN ?_; intro w1 hI1 hG1 hs1)
  have hv : (w1.alloc (.cells #[.slice (some ⟨w.heap.size + 1, 0, none⟩) N N] 86)).heap[w.heap.size + 2]? = some (.cells #[.slice (some ⟨w.heap.size + 1, 0, none⟩) N N] 86) := by
    have := heap_alloc_new w1 (.cells #[.slice (some ⟨w.heap.size + 1, 0, none⟩) N N] 86)
    rw [hs1] at this
    simpa using this
  have gv := World.grownBy_alloc w1 (.cells #[.slice (some ⟨w.heap.size + 1, 0, none⟩) N N] 86) none
  have hI1' : IRow w1 (w.heap.size + 1) 90 (4 * N) (fun _ => 0) := by simpa using hI1
  have hI2 := hI1'.keep gv
  have hB2 := hb0.keep (grown_trans hG1 gv)
  have hG2 := grown_trans hg0 (grown_trans hG1 gv)
  generalize w1.alloc (.cells #[.slice (some ⟨w.heap.size + 1, 0, none⟩) N N] 86) = wb at *
  clear gv hI1 hI1' hb0 hG1 hs1 hg0
  go_loopw [0, 15] (fun s i wr => ∃ k : Nat, k ≤ N ∧ i = .int .i64 k ∧ (∃ o : Nat, s = .slice (some ⟨b, o, none⟩) (n - cntN r k : Nat) (cap - cntN r k : Nat) ∧ (0 < n - cntN r k → o = off + cntN r k)) ∧ w.grownBy wr none ∧ Box wr w.heap.size r ∧ wr.heap[w.heap.size + 2]? = some (.cells #[.slice (some ⟨w.heap.size + 1, 0, none⟩) N N] 86) ∧
    IRow wr (w.heap.size + 1) 90 (4 * N) (fun j => if j < k * 4 then prV r S j else 0)) (fun _ i _ => N - (intOf i).toNat)
  case atStart => exact ⟨0, by omega, rfl, ⟨off, rfl, fun _ => rfl⟩, hG2, hB2, hv, hI2.congr (fun i _ => by rw [if_neg (by omega)])⟩
  case round =>
    obtain ⟨k, hk, rfl, ⟨o, rfl, ho⟩, hgr, hBx, hvr, hI⟩ := hrel
    by_cases hlt : k < N
    · have c0 := hBx.c0
      have c1 := hBx.c1
      have H := fun w' => keep_any r k (by omega) h1 h2 w'
      unfold patV at H
      have q0 := prV0 r S k
      have q1 := prV1 r S k
      have q2 := prV2 r S k
      have q3 := prV3 r S k
      have hmo := cnt_mono r (show k + 1 ≤ N by omega)
      rw [← HN.out] at hmo
      obtain ⟨b1, e1⟩ : ∃ b, kb (pF r) k = b := ⟨_, rfl⟩
      obtain ⟨b2, e2⟩ : ∃ b, kb (pS r) k = b := ⟨_, rfl⟩
      rw [e1, e2] at H
      rw [e1] at q0 q1 q2 q3
      rw [e2] at q2 q3
      have HC : cntN r (k + 1) = cntN r k + kn b1 + kn b2 := cnt_step r k b1 b2 e1 e2
      clear e1 e2
      have hsz := hgr.size
      have hbn1 : ¬ b = w.heap.size + 1 := by omega
      have hbn2 : ¬ w.heap.size + 1 = b := by omega
      have hPr := fun i w' => priced_any (nthI S i) (hSb i) w'
      have HF : Hid (∀ w' : World, w.grownBy w' none → Box w' w.heap.size r → w'.heap[w.heap.size + 2]? = some (.cells #[.slice (some ⟨w.heap.size + 1, 0, none⟩) N N] 86) → ∀ f, IRow w' (w.heap.size + 1) 90 (4 * N) f →
          ((∀ i, i < n → w'.cell? ⟨b, off + i, none⟩ = some (.int .i64 (nthI S i))) ∧ b < w'.heap.size ∧ w.heap.size + 1 < w'.heap.size ∧ w.heap.size + 2 < w'.heap.size ∧ w'.cell? ⟨w.heap.size + 2, 0, none⟩ = some (.slice (some ⟨w.heap.size + 1, 0, none⟩) N N)) ∧
          (w'.frozen? ⟨w.heap.size + 1, k * 4, none⟩ = false ∧ w'.frozen? ⟨w.heap.size + 1, k * 4 + 1, none⟩ = false ∧ w'.cell? ⟨w.heap.size + 1, k * 4, none⟩ = some (.int .i64 (f (k * 4))) ∧ w'.cell? ⟨w.heap.size + 1, k * 4 + 1, none⟩ = some (.int .i64 (f (k * 4 + 1)))) ∧
          (w'.frozen? ⟨w.heap.size + 1, k * 4 + 2, none⟩ = false ∧ w'.frozen? ⟨w.heap.size + 1, k * 4 + 3, none⟩ = false ∧ w'.cell? ⟨w.heap.size + 1, k * 4 + 2, none⟩ = some (.int .i64 (f (k * 4 + 2))) ∧ w'.cell? ⟨w.heap.size + 1, k * 4 + 3, none⟩ = some (.int .i64 (f (k * 4 + 3))))) := by
        intro w' hg hBx' hv' f hI'
        obtain ⟨b', off', e, hbw, hc⟩ := (hS.keep hg).at' hn0
        cases e
        refine ⟨⟨hc, hbw, hI'.lt, (Array.getElem?_eq_some_iff.1 hv').1, by rw [cell_of_row w' _ 0 _ _ _ hv']; rfl⟩, ⟨hI'.free _, hI'.free _, hI'.cell _ (by omega), hI'.cell _ (by omega)⟩, ⟨hI'.free _, hI'.free _, hI'.cell _ (by omega), hI'.cell _ (by omega)⟩⟩
      have hkN : (k : Int) < (N : Int) := by omega
      have HQ : Hid ((0 < n - cntN r k → o = off + cntN r k) ∧ cntN r (k + 1) = cntN r k + kn b1 + kn b2 ∧ cntN r (k + 1) ≤ n ∧ n ≤ cap) := ⟨ho, HC, hmo, hle⟩
      have HI : Hid (∀ f' : Nat → Int, (∀ j, j < 4 * N → f' j = if j < (k + 1) * 4 then prV r S j else 0) ↔ ((∀ j, j < 4 * N → j < k * 4 → f' j = prV r S j) ∧ f' (k * 4) = prV r S (k * 4) ∧ f' (k * 4 + 1) = prV r S (k * 4 + 1) ∧ f' (k * 4 + 2) = prV r S (k * 4 + 2) ∧ f' (k * 4 + 3) = prV r S (k * 4 + 3) ∧ ∀ j, j < 4 * N → (k + 1) * 4 ≤ j → f' j = 0)) := by
        intro f'
        constructor
        · intro h
          refine ⟨fun j hj hl => by rw [h j hj, if_pos (by omega)], by rw [h _ (by omega), if_pos (by omega)], by rw [h _ (by omega), if_pos (by omega)], by rw [h _ (by omega), if_pos (by omega)], by rw [h _ (by omega), if_pos (by omega)], fun j hj hl => by rw [h j hj, if_neg (by omega)]⟩
        · rintro ⟨a1, a2, a3, a4, a5, a6⟩ j hj
          by_cases e : j < (k + 1) * 4
          · rw [if_pos e]
            rcases (by omega : j < k * 4 ∨ j = k * 4 ∨ j = k * 4 + 1 ∨ j = k * 4 + 2 ∨ j = k * 4 + 3) with e | e | e | e | e
            · exact a1 j hj e
            · rw [e]; exact a2
            · rw [e]; exact a3
            · rw [e]; exact a4
            · rw [e]; exact a5
          · rw [if_neg e]; exact a6 j hj (by omega)
      have hxx : ∀ i, i < n → ∀ w' : World, (∀ i, i < n → w'.cell? ⟨b, off + i, none⟩ = some (.int .i64 (nthI S i))) → w'.cell? ⟨b, off + i, none⟩ = some (.int .i64 (nthI S i)) := fun i hi w' h => h i hi
      have HR := fun w' g => (⟨grown_trans hgr g, hBx.keep g, (g.block _ (Array.getElem?_eq_some_iff.1 hvr).1 (by simp)).trans hvr, hI.keep g⟩ : w.grownBy w' none ∧ Box w' w.heap.size r ∧ w'.heap[w.heap.size + 2]? = some (.cells #[.slice (some ⟨w.heap.size + 1, 0, none⟩) N N] 86) ∧ IRow w' (w.heap.size + 1) 90 (4 * N) (fun j => if j < k * 4 then prV r S j else 0))
      have HXX : Hid (∀ i, i < n → ∀ w' : World, (∀ i, i < n → w'.cell? ⟨b, off + i, none⟩ = some (.int .i64 (nthI S i))) → w'.cell? ⟨b, off + i, none⟩ = some (.int .i64 (nthI S i))) := hxx
      have HL1 : Hid (1 ≤ kn b1 + kn b2 → cntN r k < n) := fun h => by omega
      have HL2 : Hid (2 ≤ kn b1 + kn b2 → cntN r k + 1 < n) := fun h => by omega
      clear hI hvr hBx ho hmo hxx
      cases b1
      · simp only [kn, if_true, Bool.false_eq_true, if_false, Nat.add_zero] at HC q0 q1 q2 q3
        cases b2
        · go_wp2_with (go_at_call 52; refine (H _).mono ?_; rintro e w3 ⟨rfl, g3⟩)
          obtain ⟨hG3, hB3, hv3, hI3⟩ := HR w3 g3
          go_roundw
          case rel =>
            obtain ⟨p1, p2, p3, p4⟩ := HQ.out
            simp only [kn, if_true, Bool.false_eq_true, if_false, Nat.add_zero] at p2 q2 q3
            refine ⟨k + 1, by omega, by go_num, ⟨o, by rw [p2], by rw [p2]; exact p1⟩, hG3, hB3, hv3, hI3.congr ((HI.out _).2 ⟨fun j _ hl => if_pos hl, by rw [if_neg (by omega), q0], by rw [if_neg (by omega), q1], by rw [if_neg (by omega), q2], by rw [if_neg (by omega), q3], fun j _ hl => if_neg (by omega)⟩)⟩
          case measure => simp [intOf]; omega
        · skip
          have hcn : cntN r k < n := HL1.out (by decide)
          have ho' := (HQ.out).1 (by omega)
          subst ho'
          have hPx := hPr (cntN r k)
          have hxb := hSb (cntN r k)
          have hxc := HXX.out (cntN r k) hcn
          generalize hxe : nthI S (cntN r k) = x at hPx hxb hxc q0 q1 q2 q3
          generalize cntN r k = c at *
          have HXC : Hid (∀ w' : World, (∀ i, i < n → w'.cell? ⟨b, off + i, none⟩ = some (.int .i64 (nthI S i))) → w'.cell? ⟨b, off + c, none⟩ = some (.int .i64 x)) := hxc
          clear hxc
          obtain ⟨m, HM1⟩ : ∃ m, Hid (n - c = m) := ⟨_, rfl⟩
          obtain ⟨cp, HM2⟩ : ∃ m, Hid (cap - c = m) := ⟨_, rfl⟩
          have hm7 : 0 < m := by have := HM1.out; omega
          have hm3 : 1 ≤ m := hm7
          have hm4 : m ≤ cp := by have := HM1.out; have := HM2.out; omega
          have hm2 : (m : Int) ≤ (cp : Int) := by omega
          have hm1 : (1 : Int) ≤ (m : Int) := by omega
          have hm : (0 : Int) < (m : Int) := by omega
          rw [HM1.out, HM2.out]
          have HZ : Hid (nthI S c = x) := hxe
          clear hxe
          by_cases hcp : cp = 1
          · skip
            go_wp2_with (go_at_call 52; refine (H _).mono ?_; rintro e w3 ⟨rfl, g3⟩)
            obtain ⟨hG3, hB3, hv3, hI3⟩ := HR w3 g3
            obtain ⟨⟨y1, y2, y2', y2'', y3⟩, _, ⟨z1, z2, z3, z4⟩⟩ := HF.out w3 hG3 hB3 hv3 _ hI3
            have y4 := HXC.out w3 y1
            clear y1
            go_region_held3 (fun w' => w'.cell? ⟨w.heap.size + 2, 0, none⟩ = some (.slice (some ⟨w.heap.size + 1, 0, none⟩) N N) ∧ w'.cell? ⟨b, off + c, none⟩ = some (.int .i64 x)) (go_keep) (first | (go_at_call 56; refine (hPx _).mono ?_; rintro e w' ⟨rfl, rfl⟩))
            all_goals
              obtain ⟨J, gJ⟩ := two_sets w3 (w.heap.size + 1) 90 (4 * N) (k * 4 + 2) _ (7 + x) (7 - x) (.cells #[.int .i64 (7 + x), .int .i64 (7 - x)] 88) hI3
              have hGc := grown_far hG3 gJ (fun g e => by cases e; omega)
              have hBc := hB3.kept gJ (by simp)
              have hvc := (gJ.block _ (Array.getElem?_eq_some_iff.1 hv3).1 (by simp)).trans hv3
              clear y2 y2' y2'' y3 y4 z1 z2 z3 z4
              generalize hwc : (((w3.setCell ⟨w.heap.size + 1, k * 4 + 2, none⟩ (.int .i64 (7 + x))).setCell ⟨w.heap.size + 1, k * 4 + 2 + 1, none⟩ (.int .i64 (7 - x))).alloc (.cells #[.int .i64 (7 + x), .int .i64 (7 - x)] 88)).drew = wc at *
              clear hwc gJ
              go_wp2
              go_roundw
              case rel =>
                obtain ⟨p1, p2, p3, p4⟩ := HQ.out
                have r1 := HM1.out
                have r2 := HM2.out
                simp only [kn, if_true, Bool.false_eq_true, if_false, Nat.add_zero] at p2
                refine ⟨k + 1, by omega, by go_num, ⟨off + c, by rw [p2]; congr 1 <;> omega, by rw [p2]; omega⟩, hGc, hBc, hvc, J.congr ((HI.out _).2 ⟨?_, ?_, ?_, ?_, ?_, ?_⟩)⟩
                all_goals (try intro j hj hl)
                all_goals (try simp only [q0, q1, q2, q3, if_true, Bool.false_eq_true, if_false])
                all_goals repeat' split
                all_goals first | rfl | omega
              case measure => simp [intOf]; omega
          · skip
            go_wp2_with (go_at_call 52; refine (H _).mono ?_; rintro e w3 ⟨rfl, g3⟩)
            obtain ⟨hG3, hB3, hv3, hI3⟩ := HR w3 g3
            obtain ⟨⟨y1, y2, y2', y2'', y3⟩, _, ⟨z1, z2, z3, z4⟩⟩ := HF.out w3 hG3 hB3 hv3 _ hI3
            have y4 := HXC.out w3 y1
            clear y1
            go_region_held3 (fun w' => w'.cell? ⟨w.heap.size + 2, 0, none⟩ = some (.slice (some ⟨w.heap.size + 1, 0, none⟩) N N) ∧ w'.cell? ⟨b, off + c, none⟩ = some (.int .i64 x)) (go_keep) (first | (go_at_call 56; refine (hPx _).mono ?_; rintro e w' ⟨rfl, rfl⟩))
            all_goals
              obtain ⟨J, gJ⟩ := two_sets w3 (w.heap.size + 1) 90 (4 * N) (k * 4 + 2) _ (7 + x) (7 - x) (.cells #[.int .i64 (7 + x), .int .i64 (7 - x)] 88) hI3
              have hGc := grown_far hG3 gJ (fun g e => by cases e; omega)
              have hBc := hB3.kept gJ (by simp)
              have hvc := (gJ.block _ (Array.getElem?_eq_some_iff.1 hv3).1 (by simp)).trans hv3
              clear y2 y2' y2'' y3 y4 z1 z2 z3 z4
              generalize hwc : (((w3.setCell ⟨w.heap.size + 1, k * 4 + 2, none⟩ (.int .i64 (7 + x))).setCell ⟨w.heap.size + 1, k * 4 + 2 + 1, none⟩ (.int .i64 (7 - x))).alloc (.cells #[.int .i64 (7 + x), .int .i64 (7 - x)] 88)).drew = wc at *
              clear hwc gJ
              go_wp2
              go_roundw
              case rel =>
                obtain ⟨p1, p2, p3, p4⟩ := HQ.out
                have r1 := HM1.out
                have r2 := HM2.out
                simp only [kn, if_true, Bool.false_eq_true, if_false, Nat.add_zero] at p2
                refine ⟨k + 1, by omega, by go_num, ⟨off + c + 1, by rw [p2]; congr 1 <;> omega, by rw [p2]; omega⟩, hGc, hBc, hvc, J.congr ((HI.out _).2 ⟨?_, ?_, ?_, ?_, ?_, ?_⟩)⟩
                all_goals (try intro j hj hl)
                all_goals (try simp only [q0, q1, q2, q3, if_true, Bool.false_eq_true, if_false])
                all_goals repeat' split
                all_goals first | rfl | omega
              case measure => simp [intOf]; omega
      · simp only [kn, if_true, Bool.false_eq_true, if_false, Nat.add_zero] at HC q0 q1
        cases b2
        · simp only [kn, if_true, Bool.false_eq_true, if_false, Nat.add_zero] at HC q2 q3
          have hcn : cntN r k < n := HL1.out (by decide)
          have ho' := (HQ.out).1 (by omega)
          subst ho'
          have hPx := hPr (cntN r k)
          have hxb := hSb (cntN r k)
          have hxc := HXX.out (cntN r k) hcn
          generalize hxe : nthI S (cntN r k) = x at hPx hxb hxc q0 q1 q2 q3
          generalize cntN r k = c at *
          have HXC : Hid (∀ w' : World, (∀ i, i < n → w'.cell? ⟨b, off + i, none⟩ = some (.int .i64 (nthI S i))) → w'.cell? ⟨b, off + c, none⟩ = some (.int .i64 x)) := hxc
          clear hxc
          obtain ⟨m, HM1⟩ : ∃ m, Hid (n - c = m) := ⟨_, rfl⟩
          obtain ⟨cp, HM2⟩ : ∃ m, Hid (cap - c = m) := ⟨_, rfl⟩
          have hm7 : 0 < m := by have := HM1.out; omega
          have hm3 : 1 ≤ m := hm7
          have hm4 : m ≤ cp := by have := HM1.out; have := HM2.out; omega
          have hm2 : (m : Int) ≤ (cp : Int) := by omega
          have hm1 : (1 : Int) ≤ (m : Int) := by omega
          have hm : (0 : Int) < (m : Int) := by omega
          rw [HM1.out, HM2.out]
          have HZ : Hid (nthI S c = x) := hxe
          clear hxe
          by_cases hcp : cp = 1
          · skip
            go_wp2_with (go_at_call 52; refine (H _).mono ?_; rintro e w3 ⟨rfl, g3⟩)
            obtain ⟨hG3, hB3, hv3, hI3⟩ := HR w3 g3
            obtain ⟨⟨y1, y2, y2', y2'', y3⟩, ⟨z1, z2, z3, z4⟩, _⟩ := HF.out w3 hG3 hB3 hv3 _ hI3
            have y4 := HXC.out w3 y1
            clear y1
            go_region_held3 (fun w' => w'.cell? ⟨w.heap.size + 2, 0, none⟩ = some (.slice (some ⟨w.heap.size + 1, 0, none⟩) N N) ∧ w'.cell? ⟨b, off + c, none⟩ = some (.int .i64 x)) (go_keep) (first | (go_at_call 56; refine (hPx _).mono ?_; rintro e w' ⟨rfl, rfl⟩))
            all_goals
              obtain ⟨J, gJ⟩ := two_sets w3 (w.heap.size + 1) 90 (4 * N) (k * 4) _ (7 + x) (7 - x) (.cells #[.int .i64 (7 + x), .int .i64 (7 - x)] 88) hI3
              have hGc := grown_far hG3 gJ (fun g e => by cases e; omega)
              have hBc := hB3.kept gJ (by simp)
              have hvc := (gJ.block _ (Array.getElem?_eq_some_iff.1 hv3).1 (by simp)).trans hv3
              clear y2 y2' y2'' y3 y4 z1 z2 z3 z4
              generalize hwc : (((w3.setCell ⟨w.heap.size + 1, k * 4, none⟩ (.int .i64 (7 + x))).setCell ⟨w.heap.size + 1, k * 4 + 1, none⟩ (.int .i64 (7 - x))).alloc (.cells #[.int .i64 (7 + x), .int .i64 (7 - x)] 88)).drew = wc at *
              clear hwc gJ
              go_wp2
              go_roundw
              case rel =>
                obtain ⟨p1, p2, p3, p4⟩ := HQ.out
                have r1 := HM1.out
                have r2 := HM2.out
                simp only [kn, if_true, Bool.false_eq_true, if_false, Nat.add_zero] at p2
                refine ⟨k + 1, by omega, by go_num, ⟨off + c, by rw [p2]; congr 1 <;> omega, by rw [p2]; omega⟩, hGc, hBc, hvc, J.congr ((HI.out _).2 ⟨?_, ?_, ?_, ?_, ?_, ?_⟩)⟩
                all_goals (try intro j hj hl)
                all_goals (try simp only [q0, q1, q2, q3, if_true, Bool.false_eq_true, if_false])
                all_goals repeat' split
                all_goals first | rfl | omega
              case measure => simp [intOf]; omega
          · skip
            go_wp2_with (go_at_call 52; refine (H _).mono ?_; rintro e w3 ⟨rfl, g3⟩)
            obtain ⟨hG3, hB3, hv3, hI3⟩ := HR w3 g3
            obtain ⟨⟨y1, y2, y2', y2'', y3⟩, ⟨z1, z2, z3, z4⟩, _⟩ := HF.out w3 hG3 hB3 hv3 _ hI3
            have y4 := HXC.out w3 y1
            clear y1
            go_region_held3 (fun w' => w'.cell? ⟨w.heap.size + 2, 0, none⟩ = some (.slice (some ⟨w.heap.size + 1, 0, none⟩) N N) ∧ w'.cell? ⟨b, off + c, none⟩ = some (.int .i64 x)) (go_keep) (first | (go_at_call 56; refine (hPx _).mono ?_; rintro e w' ⟨rfl, rfl⟩))
            all_goals
              obtain ⟨J, gJ⟩ := two_sets w3 (w.heap.size + 1) 90 (4 * N) (k * 4) _ (7 + x) (7 - x) (.cells #[.int .i64 (7 + x), .int .i64 (7 - x)] 88) hI3
              have hGc := grown_far hG3 gJ (fun g e => by cases e; omega)
              have hBc := hB3.kept gJ (by simp)
              have hvc := (gJ.block _ (Array.getElem?_eq_some_iff.1 hv3).1 (by simp)).trans hv3
              clear y2 y2' y2'' y3 y4 z1 z2 z3 z4
              generalize hwc : (((w3.setCell ⟨w.heap.size + 1, k * 4, none⟩ (.int .i64 (7 + x))).setCell ⟨w.heap.size + 1, k * 4 + 1, none⟩ (.int .i64 (7 - x))).alloc (.cells #[.int .i64 (7 + x), .int .i64 (7 - x)] 88)).drew = wc at *
              clear hwc gJ
              go_wp2
              go_roundw
              case rel =>
                obtain ⟨p1, p2, p3, p4⟩ := HQ.out
                have r1 := HM1.out
                have r2 := HM2.out
                simp only [kn, if_true, Bool.false_eq_true, if_false, Nat.add_zero] at p2
                refine ⟨k + 1, by omega, by go_num, ⟨off + c + 1, by rw [p2]; congr 1 <;> omega, by rw [p2]; omega⟩, hGc, hBc, hvc, J.congr ((HI.out _).2 ⟨?_, ?_, ?_, ?_, ?_, ?_⟩)⟩
                all_goals (try intro j hj hl)
                all_goals (try simp only [q0, q1, q2, q3, if_true, Bool.false_eq_true, if_false])
                all_goals repeat' split
                all_goals first | rfl | omega
              case measure => simp [intOf]; omega
        · simp only [kn, if_true, Bool.false_eq_true, if_false, Nat.add_zero] at HC q2 q3
          have hcn : cntN r k + 1 < n := HL2.out (by decide)
          have ho' := (HQ.out).1 (by omega)
          subst ho'
          have hPx := hPr (cntN r k)
          have hPy := hPr (cntN r k + 1)
          have hxb := hSb (cntN r k)
          have hyb := hSb (cntN r k + 1)
          have hxc := HXX.out (cntN r k) (by omega)
          have hyc := HXX.out (cntN r k + 1) hcn
          generalize hxe : nthI S (cntN r k) = x at hPx hxb hxc q0 q1
          generalize hye : nthI S (cntN r k + 1) = y at hPy hyb hyc q2 q3
          generalize cntN r k = c at *
          have HXC : Hid (∀ w' : World, (∀ i, i < n → w'.cell? ⟨b, off + i, none⟩ = some (.int .i64 (nthI S i))) → w'.cell? ⟨b, off + c, none⟩ = some (.int .i64 x)) := hxc
          have HYC : Hid (∀ w' : World, (∀ i, i < n → w'.cell? ⟨b, off + i, none⟩ = some (.int .i64 (nthI S i))) → w'.cell? ⟨b, off + c + 1, none⟩ = some (.int .i64 y)) := hyc
          clear hxc hyc hxe hye
          obtain ⟨m, HM1⟩ : ∃ m, Hid (n - c = m + 1) := ⟨n - c - 1, (by omega : n - c = n - c - 1 + 1)⟩
          obtain ⟨cp, HM2⟩ : ∃ m, Hid (cap - c = m + 1) := ⟨cap - c - 1, (by omega : cap - c = cap - c - 1 + 1)⟩
          have hm7 : 0 < m := by have := HM1.out; omega
          have hm3 : 1 ≤ m := hm7
          have hm4 : m ≤ cp := by have := HM1.out; have := HM2.out; omega
          have hm2 : (m : Int) ≤ (cp : Int) := by omega
          have hm1 : (1 : Int) ≤ (m : Int) := by omega
          have hm : (0 : Int) < (m : Int) := by omega
          have hm2' : (m : Int) + 1 ≤ (cp : Int) + 1 := by omega
          have hm1' : (1 : Int) ≤ (m : Int) + 1 := by omega
          have hm' : (0 : Int) < (m : Int) + 1 := by omega
          have hm0' : (0 : Int) ≤ (m : Int) := by omega
          have hcp0 : ¬ cp = 0 := by omega
          rw [HM1.out, HM2.out]
          by_cases hcp : cp = 1
          · skip
            go_wp2_with (go_at_call 52; refine (H _).mono ?_; rintro e w3 ⟨rfl, g3⟩)
            obtain ⟨hG3, hB3, hv3, hI3⟩ := HR w3 g3
            obtain ⟨⟨y1, y2, y2', y2'', y3⟩, ⟨z1, z2, z3, z4⟩, _⟩ := HF.out w3 hG3 hB3 hv3 _ hI3
            have y4 := HXC.out w3 y1
            clear y1
            go_region_held3 (fun w' => w'.cell? ⟨w.heap.size + 2, 0, none⟩ = some (.slice (some ⟨w.heap.size + 1, 0, none⟩) N N) ∧ w'.cell? ⟨b, off + c, none⟩ = some (.int .i64 x)) (go_keep) (first | (go_at_call 56; refine (hPx _).mono ?_; rintro e w' ⟨rfl, rfl⟩))
            all_goals
              obtain ⟨J, gJ⟩ := two_sets w3 (w.heap.size + 1) 90 (4 * N) (k * 4) _ (7 + x) (7 - x) (.cells #[.int .i64 (7 + x), .int .i64 (7 - x)] 88) hI3
              have hGc := grown_far hG3 gJ (fun g e => by cases e; omega)
              have hBc := hB3.kept gJ (by simp)
              have hvc := (gJ.block _ (Array.getElem?_eq_some_iff.1 hv3).1 (by simp)).trans hv3
              clear y2 y2' y2'' y3 y4 z1 z2 z3 z4
              generalize hwc : (((w3.setCell ⟨w.heap.size + 1, k * 4, none⟩ (.int .i64 (7 + x))).setCell ⟨w.heap.size + 1, k * 4 + 1, none⟩ (.int .i64 (7 - x))).alloc (.cells #[.int .i64 (7 + x), .int .i64 (7 - x)] 88)).drew = wc at *
              clear hwc gJ
              go_wp2
              obtain ⟨⟨y1, y2, y2', y2'', y3⟩, _, ⟨z1, z2, z3, z4⟩⟩ := HF.out wc hGc hBc hvc _ J
              have y4 := HYC.out wc y1
              clear y1
              go_region_held3 (fun w' => w'.cell? ⟨w.heap.size + 2, 0, none⟩ = some (.slice (some ⟨w.heap.size + 1, 0, none⟩) N N) ∧ w'.cell? ⟨b, off + c + 1, none⟩ = some (.int .i64 y)) (go_keep) (first | (go_at_call 56; refine (hPy _).mono ?_; rintro e w' ⟨rfl, rfl⟩))
              all_goals
                have J1 := J
                clear J
                obtain ⟨J, gJ⟩ := two_sets wc (w.heap.size + 1) 90 (4 * N) (k * 4 + 2) _ (7 + y) (7 - y) (.cells #[.int .i64 (7 + y), .int .i64 (7 - y)] 88) J1
                have hGcd := grown_far hGc gJ (fun g e => by cases e; omega)
                have hBcd := hBc.kept gJ (by simp)
                have hvcd := (gJ.block _ (Array.getElem?_eq_some_iff.1 hvc).1 (by simp)).trans hvc
                clear y2 y2' y2'' y3 y4 z1 z2 z3 z4
                generalize hwc : (((wc.setCell ⟨w.heap.size + 1, k * 4 + 2, none⟩ (.int .i64 (7 + y))).setCell ⟨w.heap.size + 1, k * 4 + 2 + 1, none⟩ (.int .i64 (7 - y))).alloc (.cells #[.int .i64 (7 + y), .int .i64 (7 - y)] 88)).drew = wcd at *
                clear hwc gJ
                go_wp2
                go_roundw
                case rel =>
                  obtain ⟨p1, p2, p3, p4⟩ := HQ.out
                  have r1 := HM1.out
                  have r2 := HM2.out
                  simp only [kn, if_true, Bool.false_eq_true, if_false, Nat.add_zero] at p2
                  refine ⟨k + 1, by omega, by go_num, ⟨off + c + 1, by rw [p2]; congr 1 <;> omega, by rw [p2]; omega⟩, hGcd, hBcd, hvcd, J.congr ((HI.out _).2 ⟨?_, ?_, ?_, ?_, ?_, ?_⟩)⟩
                  all_goals (try intro j hj hl)
                  all_goals (try simp only [q0, q1, q2, q3, if_true, Bool.false_eq_true, if_false])
                  all_goals repeat' split
                  all_goals first | rfl | omega
                case measure => simp [intOf]; omega
          · skip
            go_wp2_with (go_at_call 52; refine (H _).mono ?_; rintro e w3 ⟨rfl, g3⟩)
            obtain ⟨hG3, hB3, hv3, hI3⟩ := HR w3 g3
            obtain ⟨⟨y1, y2, y2', y2'', y3⟩, ⟨z1, z2, z3, z4⟩, _⟩ := HF.out w3 hG3 hB3 hv3 _ hI3
            have y4 := HXC.out w3 y1
            clear y1
            go_region_held3 (fun w' => w'.cell? ⟨w.heap.size + 2, 0, none⟩ = some (.slice (some ⟨w.heap.size + 1, 0, none⟩) N N) ∧ w'.cell? ⟨b, off + c, none⟩ = some (.int .i64 x)) (go_keep) (first | (go_at_call 56; refine (hPx _).mono ?_; rintro e w' ⟨rfl, rfl⟩))
            all_goals
              obtain ⟨J, gJ⟩ := two_sets w3 (w.heap.size + 1) 90 (4 * N) (k * 4) _ (7 + x) (7 - x) (.cells #[.int .i64 (7 + x), .int .i64 (7 - x)] 88) hI3
              have hGc := grown_far hG3 gJ (fun g e => by cases e; omega)
              have hBc := hB3.kept gJ (by simp)
              have hvc := (gJ.block _ (Array.getElem?_eq_some_iff.1 hv3).1 (by simp)).trans hv3
              clear y2 y2' y2'' y3 y4 z1 z2 z3 z4
              generalize hwc : (((w3.setCell ⟨w.heap.size + 1, k * 4, none⟩ (.int .i64 (7 + x))).setCell ⟨w.heap.size + 1, k * 4 + 1, none⟩ (.int .i64 (7 - x))).alloc (.cells #[.int .i64 (7 + x), .int .i64 (7 - x)] 88)).drew = wc at *
              clear hwc gJ
              go_wp2
              obtain ⟨⟨y1, y2, y2', y2'', y3⟩, _, ⟨z1, z2, z3, z4⟩⟩ := HF.out wc hGc hBc hvc _ J
              have y4 := HYC.out wc y1
              clear y1
              go_region_held3 (fun w' => w'.cell? ⟨w.heap.size + 2, 0, none⟩ = some (.slice (some ⟨w.heap.size + 1, 0, none⟩) N N) ∧ w'.cell? ⟨b, off + c + 1, none⟩ = some (.int .i64 y)) (go_keep) (first | (go_at_call 56; refine (hPy _).mono ?_; rintro e w' ⟨rfl, rfl⟩))
              all_goals
                have J1 := J
                clear J
                obtain ⟨J, gJ⟩ := two_sets wc (w.heap.size + 1) 90 (4 * N) (k * 4 + 2) _ (7 + y) (7 - y) (.cells #[.int .i64 (7 + y), .int .i64 (7 - y)] 88) J1
                have hGcd := grown_far hGc gJ (fun g e => by cases e; omega)
                have hBcd := hBc.kept gJ (by simp)
                have hvcd := (gJ.block _ (Array.getElem?_eq_some_iff.1 hvc).1 (by simp)).trans hvc
                clear y2 y2' y2'' y3 y4 z1 z2 z3 z4
                generalize hwc : (((wc.setCell ⟨w.heap.size + 1, k * 4 + 2, none⟩ (.int .i64 (7 + y))).setCell ⟨w.heap.size + 1, k * 4 + 2 + 1, none⟩ (.int .i64 (7 - y))).alloc (.cells #[.int .i64 (7 + y), .int .i64 (7 - y)] 88)).drew = wcd at *
                clear hwc gJ
                go_wp2
                go_roundw
                case rel =>
                  obtain ⟨p1, p2, p3, p4⟩ := HQ.out
                  have r1 := HM1.out
                  have r2 := HM2.out
                  simp only [kn, if_true, Bool.false_eq_true, if_false, Nat.add_zero] at p2
                  refine ⟨k + 1, by omega, by go_num, ⟨off + c + 1 + 1, by rw [p2]; congr 1 <;> omega, by rw [p2]; omega⟩, hGcd, hBcd, hvcd, J.congr ((HI.out _).2 ⟨?_, ?_, ?_, ?_, ?_, ?_⟩)⟩
                  all_goals (try intro j hj hl)
                  all_goals (try simp only [q0, q1, q2, q3, if_true, Bool.false_eq_true, if_false])
                  all_goals repeat' split
                  all_goals first | rfl | omega
                case measure => simp [intOf]; omega
    · obtain rfl : k = N := by omega
      go_wp2
      go_ret
      exact ⟨w.heap.size + 2, w.heap.size + 1, rfl, ⟨hvr, hI.congr (fun i hi => by rw [if_pos (by omega)])⟩, by omega, by omega, hgr⟩
end Go.Proofs.Ytbgbohddkfaacaa
