import Derived.Test.YtpcejajijaphbaaPc5
import Derived.Test.YtpcejajijaphbaaPc6
namespace Go.Proofs.Ytpcejajijaphbaa
open Go.RowKit
set_option maxRecDepth 100000
set_option linter.unusedVariables false
set_option linter.unusedSimpArgs false

section
theorem rows_bd (F : Nat → Pa) (g : Int) (hok : ∀ i, (F i).ok) : ∀ O r, r ∈ rwF F g O → r.1.length ≤ O.length ∧ 0 ≤ r.2 ∧ r.2 ≤ 1000000 * (r.1.length : Int) := by
  refine snoc_ind (fun r h => by cases h) ?_
  intro O i ih r hr
  rw [rw_app] at hr
  rcases List.mem_append.1 hr with h | h
  · obtain ⟨k1, k2, k3⟩ := ih r h
    exact ⟨by rw [List.length_append]; omega, k2, k3⟩
  · rw [List.mem_singleton.1 h]
    have ht : (topF (fun p => mf (F i) (F p) g) (rwF F g O) ([], 0)).1.length ≤ O.length ∧ 0 ≤ (topF (fun p => mf (F i) (F p) g) (rwF F g O) ([], 0)).2 ∧ (topF (fun p => mf (F i) (F p) g) (rwF F g O) ([], 0)).2 ≤ 1000000 * ((topF (fun p => mf (F i) (F p) g) (rwF F g O) ([], 0)).1.length : Int) := by
      rcases top_cases (fun p => mf (F i) (F p) g) (rwF F g O) ([], 0) with e | ⟨e, _⟩
      · rw [e]; exact ⟨Nat.zero_le _, Int.le_refl _, by simp⟩
      · exact ih _ e
    unfold nwR
    generalize topF (fun p => mf (F i) (F p) g) (rwF F g O) ([], 0) = t at *
    have h1 := (hok i).wo
    obtain ⟨t1, t2, t3⟩ := ht
    refine ⟨by show t.1.length + 1 ≤ _; rw [List.length_append]; simp; omega, by show 0 ≤ (F i).wo + t.2; omega, ?_⟩
    show (F i).wo + t.2 ≤ 1000000 * ((t.1.length + 1 : Nat) : Int)
    omega
theorem top_bd (F : Nat → Pa) (g : Int) (hok : ∀ i, (F i).ok) (may : Nat → Bool) (O : List Nat) : (topF may (rwF F g O) ([], 0)).1.length ≤ O.length ∧ 0 ≤ (topF may (rwF F g O) ([], 0)).2 ∧ (topF may (rwF F g O) ([], 0)).2 ≤ 1000000 * ((topF may (rwF F g O) ([], 0)).1.length : Int) := by
  rcases top_cases may (rwF F g O) ([], 0) with e | ⟨e, _⟩
  · rw [e]; exact ⟨Nat.zero_le _, Int.le_refl _, by simp⟩
  · exact rows_bd F g hok O _ e
theorem Nd.wide {w : World} {lo lo' : Nat} (hl : lo' ≤ lo) : ∀ {L : List Nat} {wo : Int} {g : Nat}, Nd w lo L wo g → Nd w lo' L wo g := by
  intro L
  induction L with
  | nil => intro wo g h; exact ⟨Nat.le_trans hl h.1, h.2⟩
  | cons i L ih => intro wo g h; obtain ⟨h1, g', wo', b, h2⟩ := h; exact ⟨Nat.le_trans hl h1, g', wo', b, ih h2⟩
theorem AnsX.bxR {e : TypeId} {w : World} {lo n c g : Nat} {a : Option Addr} {X : List Value} {t : TypeId} {cs : Array Value} (h : AnsX e w lo a n c X) (b : BxS w g t cs) (ht : e ≠ t) : (Value.slice a n c).ownBlock ≠ some g := by
  intro e2
  rcases h.own.2 with ⟨h1, _⟩ | ⟨g', cap', cur, h1, _, h3, _⟩
  · rw [h1] at e2; cases e2
  · rw [h1] at e2
    have e2 : g' = g := Option.some.inj e2
    subst e2
    unfold BxS at b
    rw [h3] at b
    have := Option.some.inj b
    cases this
    exact ht rfl
theorem AnsX.tyR {e : TypeId} {w : World} {lo n c : Nat} {a : Option Addr} {X : List Value} (h : AnsX e w lo a n c X) : ∀ z, (Value.slice a n c).ownBlock = some z → ∃ t cs, BxS w z t cs ∧ t = e := by
  intro z e2
  rcases h.own.2 with ⟨h1, _⟩ | ⟨g', cap', cur, h1, _, h3, _⟩
  · rw [h1] at e2; cases e2
  · rw [h1] at e2
    have e2 : g' = z := Option.some.inj e2
    subst e2
    exact ⟨e, cur, h3, rfl⟩
theorem stc_ps (g i : Nat) (p : Option Addr) (l c : Nat) (w : World) (hc : ∃ u, w.cell? ⟨g, i, none⟩ = some u) (hf : w.frozen? ⟨g, i, none⟩ = false) : (Instr.storeAt 52 (.pointer (some ⟨g, i, none⟩)) (.slice p l c)).run Try.prog w = .ok () (w.setCell ⟨g, i, none⟩ (.slice p l c)) := by
  obtain ⟨u, hc⟩ := hc
  simp [go_sem, hc, hf]
/-- one row more -/
theorem RsM.push {w w' : World} {lo : Nat} {a : Option Addr} {n c : Nat} {gs : List Nat} {Rs : List Rv} (h : RsM w lo a n c gs Rs) (u : w.grownBy w' (Value.slice a n c).ownBlock) {gn gx cx : Nat} {r : Rv} (hn : Nd w lo r.1 r.2 gn) (ho : AnsX 45 w' lo (some ⟨gx, 0, none⟩) (n + 1) cx ((gs.map fun g => Value.pointer (some ⟨g, 0, none⟩)) ++ [.pointer (some ⟨gn, 0, none⟩)])) : RsM w' lo (some ⟨gx, 0, none⟩) (n + 1) cx (gs ++ [gn]) (Rs ++ [r]) := by
  have kn : ∀ {L : List Nat} {wo : Int} {g : Nat}, Nd w lo L wo g → Nd w' lo L wo g := fun k => Nd.kR u (fun z e => by
    obtain ⟨t, cs, b, ht⟩ := h.o.tyR z e
    exact ⟨t, cs, b, by rw [ht]; decide⟩) _ _ _ k
  refine ⟨by rw [List.map_append]; exact ho, by rw [List.length_append, List.length_append, h.len]; rfl, fun k g q h1 h2 => ?_⟩
  have hl := h.len
  by_cases hk : k < gs.length
  · rw [List.getElem?_append_left hk] at h1
    rw [List.getElem?_append_left (by omega)] at h2
    exact kn (h.nd k g q h1 h2)
  · rw [List.getElem?_append_right (by omega)] at h1
    rw [List.getElem?_append_right (by omega)] at h2
    rw [hl] at h2
    have hz : k - gs.length = 0 := by
      have := (List.getElem?_eq_some_iff.1 h1).1
      simp at this
      omega
    rw [hz] at h1 h2
    have h1 : gn = g := by simpa using h1
    have h2 : r = q := by simpa using h2
    subst h1 h2
    exact kn hn
theorem RsM.bx {w w' : World} {lo g : Nat} {a : Option Addr} {n c : Nat} {gs : List Nat} {Rs : List Rv} {t : TypeId} {cs : Array Value} (h : RsM w lo a n c gs Rs) (b : BxS w g t cs) (h1 : 45 ≠ t) (h2 : 49 ≠ t) (u : w.grownBy w' (some g)) : RsM w' lo a n c gs Rs := by
  refine ⟨h.o.kept u ?_, h.len, fun k g' q e1 e2 => Nd.kR u (fun z e => by have e := Option.some.inj e; subst e; exact ⟨t, cs, b, h2⟩) _ _ _ (h.nd k g' q e1 e2)⟩
  cases e : (Value.slice a n c).ownBlock with
  | none => exact .inl rfl
  | some x => exact .inr (fun e2 => by have e2 := Option.some.inj e2; subst e2; exact h.o.bxR b h1 e)
set_option maxHeartbeats 32000000 in
/-- the best row of all -/
theorem bestRow_any (wB : World) (la : Option Addr) (ln lc : Nat) (F : Nat → Pa) (g : Int) (hP : RdPa wB la ln lc F) (h200 : ln ≤ 200) (hok : ∀ i, (F i).ok) (hg : 0 ≤ g ∧ g ≤ 1000) :
    Calls Try.prog 14 #[.slice la ln lc, .int .i64 g] wB fun e w' => ∃ (gt : Nat) (O : List Nat), e = .returned (.pointer (some ⟨gt, 0, none⟩)) ∧ Nd w' wB.heap.size (bestV F g O).1 (bestV F g O).2 gt ∧ O.length = ln ∧ (∀ p, p ∈ O ↔ p < ln) ∧ O.Pairwise (fun a b => (F b).fr ≤ (F a).fr) ∧ wB.grownBy w' none := by
  have b2 := BxS.new wB 22 #[.slice la ln lc]
  have G2 := World.grownBy_alloc wB (.cells #[.slice la ln lc] 22) none
  have b3 := BxS.new (wB.alloc (.cells #[.slice la ln lc] 22)) 3 #[.int .i64 g]
  have G3 := World.grownBy_alloc (wB.alloc (.cells #[.slice la ln lc] 22)) (.cells #[.int .i64 g] 3) none
  have b23 := b2.keep G3 (by simp)
  have G03 := grown_trans G2 G3
  have hmx := hP.max
  have hple := hP.le
  unfold maxLen at hmx
  go_enter Try.func14, Try.ntmps14
  refine wp_seq_k fun K0 hK0 => ?_
  have HK0 : Hid _ := hK0
  clear hK0
  go_wp2
  refine HK0.out _ _ ?_
  clear HK0
  generalize (wB.alloc (.cells #[.slice la ln lc] 22)).alloc (.cells #[.int .i64 g] 3) = w3 at *
  have hs2 : (wB.alloc (.cells #[.slice la ln lc] 22)).heap.size = wB.heap.size + 1 := by simp
  rw [hs2] at b3
  clear G2 G3 b2
  have h20 : wB.heap.size ≤ wB.heap.size := Nat.le_refl _
  have h30 : wB.heap.size ≤ wB.heap.size + 1 := Nat.le_succ _
  obtain ⟨g2, hg2⟩ : ∃ x, wB.heap.size = x := ⟨_, rfl⟩
  obtain ⟨g3, hg3⟩ : ∃ x, wB.heap.size + 1 = x := ⟨_, rfl⟩
  rw [hg3] at b3 ⊢
  have hl2 : wB.heap.size ≤ g2 := Nat.le_of_eq hg2
  have hl3 : wB.heap.size ≤ g3 := by omega
  rw [hg2] at b23 ⊢
  clear hg2 hg3 h20 h30 hs2
  have b5 := BxS.new w3 52 #[.slice none 0 0]
  have G5 := World.grownBy_alloc w3 (.cells #[.slice none 0 0] 52) none
  refine wp_seq_k fun K1 hK1 => ?_
  have HK1 : Hid _ := hK1
  clear hK1
  go_wp2
  refine HK1.out _ _ ?_
  clear HK1
  generalize w3.alloc (.cells #[.slice none 0 0] 52) = w5 at *
  have G05 := grown_trans G03 G5
  have h5l : wB.heap.size ≤ w3.heap.size := G03.size
  obtain ⟨g5, hg5⟩ : ∃ x, w3.heap.size = x := ⟨_, rfl⟩
  rw [hg5] at b5 h5l ⊢
  clear hg5
  have b25 := b23.keep G5 (by simp)
  have b35 := b3.keep G5 (by simp)
  have c2 := b25.cell1
  have hLF := lastFirst_any w5 la ln lc F (hP.keep G05) (by omega)
  refine wp_seq_k fun K2 hK2 => ?_
  have HK2 : Hid _ := hK2
  clear hK2
  go_wp2
  refine HK2.out _ _ ?_
  clear HK2
  refine wp_seq_k fun K3 hK3 => ?_
  have HK3 : Hid _ := hK3
  clear hK3
  refine wp_seq_k fun K4 hK4 => ?_
  have HK4 : Hid _ := hK4
  clear hK4
  go_wp2_with (go_at_call 21; refine hLF.mono ?_; rintro e w6 ⟨go, O, rfl, hOl, hOc, hOm, hOp, G6⟩)
  refine HK4.out _ _ ?_
  clear HK4
  have HOP : Hid _ := hOp
  have HOM : Hid _ := hOm
  have HOL : Hid _ := hOl
  have HOC : Hid _ := hOc
  clear hOp hOm hOl hOc hLF
  have b56 := b5.keep G6 (by simp)
  have b26 := b25.keep G6 (by simp)
  have b36 := b35.keep G6 (by simp)
  have G06 := grown_trans G05 G6
  have hB6 : wB.heap.size ≤ w6.heap.size := G06.size
  have hg26 : g2 ≤ w6.heap.size := Nat.le_of_lt b26.lt
  have hgo6 : 0 < ln → go < w6.heap.size := fun h => by
    have hol := HOL.out
    exact cell_ltR (HOC.out 0 _ (List.getElem?_eq_getElem (by omega)))
  have h66 : w6.heap.size ≤ w6.heap.size := Nat.le_refl _
  obtain ⟨l6, hl6e⟩ : ∃ x, w6.heap.size = x := ⟨_, rfl⟩
  rw [hl6e] at hB6 hgo6 hg26
  have hl66 : l6 ≤ w6.heap.size := Nat.le_of_eq hl6e.symm
  clear hl6e h66
  go_wp2
  go_loopw [14, 8, 9] (fun v14 v8 v9 wr => ∃ (k : Nat) (ra : Option Addr) (rc : Nat) (gs : List Nat), k ≤ ln ∧ v14 = .int .i64 k ∧ BxS wr g5 52 #[.slice ra k rc] ∧ RsM wr l6 ra k rc gs (rwF F g (O.take k)) ∧ l6 ≤ wr.heap.size ∧ wB.grownBy wr none ∧ BxS wr g2 22 #[.slice la ln lc] ∧ BxS wr g3 3 #[.int .i64 g] ∧ Hid (∀ j p : Nat, O[j]? = some p → wr.cell? ⟨go, j, none⟩ = some (.int .i64 (p : Int)))) (fun v14 v8 v9 _ => ln - (intOf v14).toNat)
  case atStart => exact ⟨0, none, 0, [], Nat.zero_le _, rfl, b56, ⟨AnsX.nil0 _ _ _, rfl, (fun k g r h => by cases h)⟩, hl66, G06, b26, b36, HOC.out⟩
  case round =>
    obtain ⟨k, ra, rc, gs, hk, rfl, b5r, hR, hl6r, GR, b2r, b3r, HCr⟩ := hrel
    by_cases hlt : k < ln
    · have lk : (k : Int) < (ln : Int) := by omega
      have hol := HOL.out
      obtain ⟨i, hik⟩ : ∃ i, O[k]? = some i := ⟨O[k]'(by omega), List.getElem?_eq_getElem _⟩
      have hiO : i ∈ O := List.mem_of_getElem? hik
      have hi : i < ln := (HOM.out i).1 hiO
      have ci := HCr.out k i hik
      have HIK : Hid _ := hik
      have hin : ∀ r, r ∈ rwF F g (O.take k) → hdP r < ln := fun r hr => (HOM.out _).1 (List.mem_of_mem_take (rows_ok F g _ r hr).2.2)
      have hb := top_bd F g hok (fun p => mf (F i) (F p) g) (O.take k)
      have hb0 : (O.take k).length ≤ 200 := by rw [List.length_take]; omega
      have hokw := hok i
      clear hik hiO hol
      have b80 := BxS.new wr 3 #[.int .i64 0]
      have G80 := World.grownBy_alloc wr (.cells #[.int .i64 0] 3) none
      refine wp_seq_k fun K5 hK5 => ?_
      have HK5 : Hid _ := hK5
      clear hK5
      go_wp2
      refine HK5.out _ _ ?_
      clear HK5
      refine wp_seq_k fun K6 hK6 => ?_
      have HK6 : Hid _ := hK6
      clear hK6
      go_wp2
      refine HK6.out _ _ ?_
      clear HK6
      refine wp_seq_k fun K7 hK7 => ?_
      have HK7 : Hid _ := hK7
      clear hK7
      refine wp_block ?_
      have s1 : True := trivial
      refine wp_seq_k fun K8 hK8 => ?_
      have HK8 : Hid _ := hK8
      clear hK8
      go_wp2_with (have _t := s1; clear s1; refine wpList_stC _ rfl _ (.tmp 8) (.tmp 17) rfl wr.heap.size 0 3 _ #[.int .i64 (i : Int)] (.int .i64 (i : Int)) rfl rfl b80 (stc_int _ _ _) (by show 0 < 1; decide) rfl ?_; intro wa b8 u8)
      refine HK8.out _ _ ?_
      clear HK8
      have Ga : wr.grownBy wa none := grown_far G80 u8 (fun z e => by cases e; exact Nat.le_refl _)
      obtain ⟨g8, hg8⟩ : ∃ x, wr.heap.size = x := ⟨_, rfl⟩
      rw [hg8] at b8 ⊢
      clear hg8 b80 G80 u8
      have GA := grown_trans GR Ga
      have hBA := best_A wa l6 g5 g2 g8 g3 i ra k rc gs (rwF F g (O.take k)) la ln lc F g (b5r.keep Ga (by simp)) (hR.keep Ga) (b2r.keep Ga (by simp)) (hP.keep GA) b8 (b3r.keep Ga (by simp)) hi hokw hg hin (Nat.le_trans hl6r Ga.size) (by omega)
      obtain ⟨T, hTe⟩ : ∃ T, T = (topF (fun p => mf (F i) (F p) g) (rwF F g (O.take k)) ([], 0)) := ⟨_, rfl⟩
      rw [← hTe] at hBA hb
      have HTE : Hid _ := hTe
      clear hTe
      refine wp_seq_k fun K9 hK9 => ?_
      have HK9 : Hid _ := hK9
      clear hK9
      go_wp2_with (go_at_call 19; refine hBA.mono ?_; rintro e wd0 ⟨gt, rfl, hT6, G6b⟩)
      refine HK9.out _ _ ?_
      clear HK9
      have G0 := grown_trans GA G6b
      have hl6d : l6 ≤ wd0.heap.size := Nat.le_trans (Nat.le_trans hl6r Ga.size) G6b.size
      have b5b := (b5r.keep Ga (by simp)).keep G6b (by simp)
      have b8b := b8.keep G6b (by simp)
      have b2b := (b2r.keep Ga (by simp)).keep G6b (by simp)
      have b3b := (b3r.keep Ga (by simp)).keep G6b (by simp)
      have hRb := (hR.keep Ga).keep G6b
      have HODb := fun (j p : Nat) (h : O[j]? = some p) => cell_grR (cell_grR (HCr.out j p h) Ga) G6b
      obtain ⟨pt, hpt, hbt⟩ := hT6.box
      obtain ⟨lb, lf, hlae, hlb0, _⟩ := hP.at' (by omega)
      obtain ⟨lb', lf', hla2, hlbb, hlr⟩ := (hP.keep G0).at' (by omega)
      rw [hla2] at hlae
      cases hlae
      have hrb := hlr i hi
      rw [hla2] at b2b
      have HLA : Hid _ := hla2
      clear hla2
      have hii : (i : Int) < (ln : Int) := by omega
      have hb3 : T.1.length ≤ 200 := Nat.le_trans hb.1 hb0
      have hb1 : 0 ≤ T.2 := hb.2.1
      have hb2 : T.2 ≤ 200000000 := by have := hb.2.2; omega
      have hw1 := hokw.wo.1
      have hw2 := hokw.wo.2
      clear hlr hBA hb hb0
      have Gd := grown_drew wd0 none
      have b5d := b5b.keep Gd (by simp)
      have SS : BxS wd0.drew g5 52 #[.slice ra k rc] ∧ BxS wd0.drew g8 3 #[.int .i64 (i : Int)] ∧ BxS wd0.drew g2 22 #[.slice (some ⟨lb, lf, none⟩) ln lc] ∧ BxS wd0.drew gt 49 #[.int .i64 (hdP T : Int), pt, .int .i64 T.2, .int .i64 (T.1.length : Int)] ∧ wd0.drew.rangeAt lb (lf + i * 4) (F i).cells := ⟨b5d, b8b.keep Gd (by simp), b2b.keep Gd (by simp), hbt.keep Gd (by simp), range_keep hrb hlbb Gd⟩
      refine wp_regionM (fun wz => BxS wz g5 52 #[.slice ra k rc] ∧ BxS wz g8 3 #[.int .i64 (i : Int)] ∧ BxS wz g2 22 #[.slice (some ⟨lb, lf, none⟩) ln lc] ∧ BxS wz gt 49 #[.int .i64 (hdP T : Int), pt, .int .i64 T.2, .int .i64 (T.1.length : Int)] ∧ wz.rangeAt lb (lf + i * 4) (F i).cells) [21, 22] #[false, false, false, false, false, false, false, false, false, false, false, false, false, false, false, false, false, false, false, false, false, false, false] rfl (by kernel_rfl) ?_
      have hRd := hRb.keep Gd
      have hTd := hT6.keep Gd
      have GW := grown_trans G0 Gd
      have b3d := b3b.keep Gd (by simp)
      have HODd := fun (j p : Nat) (h : O[j]? = some p) => cell_grR (HODb j p h) Gd
      generalize wd0.drew = wd at *
      refine wpAnyY_take [21, 22] 0 (.slice ra k rc) rfl (by kernel_rfl) (fun _ _ _ h => h) SS rfl (by rintro wz ⟨z1, z2, z3, z4, z5⟩; have z := z1.cell1; go_simp) ?_
      try simp only [List.getElem_toArray, List.getElem_cons_succ, List.getElem_cons_zero, Act.put, List.setIfInBounds_toArray, List.set_cons_zero, List.set_cons_succ]
      refine wpAnyY_take [18, 19, 20, 21, 22] 1 (.int .i64 (i : Int)) rfl (by kernel_rfl) (fun _ _ _ h => h) SS rfl (by rintro wz ⟨z1, z2, z3, z4, z5⟩; have z := z2.cell1; go_simp) ?_
      try simp only [List.getElem_toArray, List.getElem_cons_succ, List.getElem_cons_zero, Act.put, List.setIfInBounds_toArray, List.set_cons_zero, List.set_cons_succ]
      refine wpAnyY_takeF 2 (.pointer (some ⟨gt, 0, none⟩)) rfl (by kernel_rfl) (fun _ _ _ h => h) rfl (by intro wz; go_simp; try rfl) ?_
      try simp only [List.getElem_toArray, List.getElem_cons_succ, List.getElem_cons_zero, Act.put, List.setIfInBounds_toArray, List.set_cons_zero, List.set_cons_succ]
      refine wpAnyY_take [5, 6, 7, 12, 18, 19, 20, 21, 22] 3 (.slice (some ⟨lb, lf, none⟩) ln lc) rfl (by kernel_rfl) (fun _ _ _ h => h) SS rfl (by rintro wz ⟨z1, z2, z3, z4, z5⟩; have z := z3.cell1; go_simp) ?_
      try simp only [List.getElem_toArray, List.getElem_cons_succ, List.getElem_cons_zero, Act.put, List.setIfInBounds_toArray, List.set_cons_zero, List.set_cons_succ]
      refine wpAnyY_take [5, 6, 7, 12, 18, 19, 20, 21, 22] 4 (.int .i64 (i : Int)) rfl (by kernel_rfl) (fun _ _ _ h => h) SS rfl (by rintro wz ⟨z1, z2, z3, z4, z5⟩; have z := z2.cell1; go_simp) ?_
      try simp only [List.getElem_toArray, List.getElem_cons_succ, List.getElem_cons_zero, Act.put, List.setIfInBounds_toArray, List.set_cons_zero, List.set_cons_succ]
      refine wpAnyY_takeF 5 (.pointer (some ⟨lb, lf + i * 4, none⟩)) rfl (by kernel_rfl) (fun _ _ _ h => h) rfl (by intro wz; go_simp; try rfl) ?_
      try simp only [List.getElem_toArray, List.getElem_cons_succ, List.getElem_cons_zero, Act.put, List.setIfInBounds_toArray, List.set_cons_zero, List.set_cons_succ]
      refine wpAnyY_takeF 6 (.pointer (some ⟨lb, lf + i * 4 + 3, none⟩)) rfl (by kernel_rfl) (fun _ _ _ h => h) rfl (by intro wz; go_simp; try rfl) ?_
      try simp only [List.getElem_toArray, List.getElem_cons_succ, List.getElem_cons_zero, Act.put, List.setIfInBounds_toArray, List.set_cons_zero, List.set_cons_succ]
      refine wpAnyY_take [12, 18, 19, 20, 21, 22] 7 (.int .i64 (F i).wo) rfl (by kernel_rfl) (fun _ _ _ h => h) SS rfl (by rintro wz ⟨z1, z2, z3, z4, z5⟩; have z : wz.cell? ⟨lb, lf + i * 4 + 3, none⟩ = some (.int .i64 (F i).wo) := z5 3 _ rfl; go_simp) ?_
      try simp only [List.getElem_toArray, List.getElem_cons_succ, List.getElem_cons_zero, Act.put, List.setIfInBounds_toArray, List.set_cons_zero, List.set_cons_succ]
      refine wpAnyY_takeF 8 (.pointer (some ⟨gt, 0, none⟩)) rfl (by kernel_rfl) (fun _ _ _ h => h) rfl (by intro wz; go_simp; try rfl) ?_
      try simp only [List.getElem_toArray, List.getElem_cons_succ, List.getElem_cons_zero, Act.put, List.setIfInBounds_toArray, List.set_cons_zero, List.set_cons_succ]
      refine wpAnyY_takeF 9 (.pointer (some ⟨gt, 0, none⟩)) rfl (by kernel_rfl) (fun _ _ _ h => h) rfl (by intro wz; go_simp; try rfl) ?_
      try simp only [List.getElem_toArray, List.getElem_cons_succ, List.getElem_cons_zero, Act.put, List.setIfInBounds_toArray, List.set_cons_zero, List.set_cons_succ]
      refine wpAnyY_takeF 10 (.pointer (some ⟨gt, 2, none⟩)) rfl (by kernel_rfl) (fun _ _ _ h => h) rfl (by intro wz; go_simp; try rfl) ?_
      try simp only [List.getElem_toArray, List.getElem_cons_succ, List.getElem_cons_zero, Act.put, List.setIfInBounds_toArray, List.set_cons_zero, List.set_cons_succ]
      refine wpAnyY_take [12, 18, 19, 20, 21, 22] 11 (.int .i64 T.2) rfl (by kernel_rfl) (fun _ _ _ h => h) SS rfl (by rintro wz ⟨z1, z2, z3, z4, z5⟩; have z : wz.cell? ⟨gt, 2, none⟩ = some (.int .i64 T.2) := z4.cell 2 (by show 2 < 4; decide); go_simp) ?_
      try simp only [List.getElem_toArray, List.getElem_cons_succ, List.getElem_cons_zero, Act.put, List.setIfInBounds_toArray, List.set_cons_zero, List.set_cons_succ]
      refine wpAnyY_takeF 12 (.int .i64 ((F i).wo + T.2)) rfl (by kernel_rfl) (fun _ _ _ h => h) rfl (by intro wz; go_simp; rw [IntKind.wrap_i64]; omega) ?_
      try simp only [List.getElem_toArray, List.getElem_cons_succ, List.getElem_cons_zero, Act.put, List.setIfInBounds_toArray, List.set_cons_zero, List.set_cons_succ]
      refine wpAnyY_takeF 13 (.pointer (some ⟨gt, 0, none⟩)) rfl (by kernel_rfl) (fun _ _ _ h => h) rfl (by intro wz; go_simp; try rfl) ?_
      try simp only [List.getElem_toArray, List.getElem_cons_succ, List.getElem_cons_zero, Act.put, List.setIfInBounds_toArray, List.set_cons_zero, List.set_cons_succ]
      refine wpAnyY_takeF 14 (.pointer (some ⟨gt, 0, none⟩)) rfl (by kernel_rfl) (fun _ _ _ h => h) rfl (by intro wz; go_simp; try rfl) ?_
      try simp only [List.getElem_toArray, List.getElem_cons_succ, List.getElem_cons_zero, Act.put, List.setIfInBounds_toArray, List.set_cons_zero, List.set_cons_succ]
      refine wpAnyY_takeF 15 (.pointer (some ⟨gt, 3, none⟩)) rfl (by kernel_rfl) (fun _ _ _ h => h) rfl (by intro wz; go_simp; try rfl) ?_
      try simp only [List.getElem_toArray, List.getElem_cons_succ, List.getElem_cons_zero, Act.put, List.setIfInBounds_toArray, List.set_cons_zero, List.set_cons_succ]
      refine wpAnyY_take [17, 18, 19, 20, 21, 22] 16 (.int .i64 (T.1.length : Int)) rfl (by kernel_rfl) (fun _ _ _ h => h) SS rfl (by rintro wz ⟨z1, z2, z3, z4, z5⟩; have z : wz.cell? ⟨gt, 3, none⟩ = some (.int .i64 (T.1.length : Int)) := z4.cell 3 (by show 3 < 4; decide); go_simp) ?_
      try simp only [List.getElem_toArray, List.getElem_cons_succ, List.getElem_cons_zero, Act.put, List.setIfInBounds_toArray, List.set_cons_zero, List.set_cons_succ]
      refine wpAnyY_takeF 17 (.int .i64 ((T.1.length : Int) + 1)) rfl (by kernel_rfl) (fun _ _ _ h => h) rfl (by intro wz; go_simp; rw [IntKind.wrap_i64]; omega) ?_
      try simp only [List.getElem_toArray, List.getElem_cons_succ, List.getElem_cons_zero, Act.put, List.setIfInBounds_toArray, List.set_cons_zero, List.set_cons_succ]
      refine wpAnyY_takeF 18 (.agg #[.int .i64 (i : Int), .pointer (some ⟨gt, 0, none⟩), .int .i64 ((F i).wo + T.2), .int .i64 ((T.1.length : Int) + 1)]) rfl (by kernel_rfl) (fun _ _ _ h => h) rfl (by intro wz; go_simp; try rfl) ?_
      try simp only [List.getElem_toArray, List.getElem_cons_succ, List.getElem_cons_zero, Act.put, List.setIfInBounds_toArray, List.set_cons_zero, List.set_cons_succ]
      refine wpAnyY_oneB 19 rfl (by kernel_rfl) (fun KK hKK => ?_)
      go_simp
      have Gn := World.grownBy_alloc wd (.cells #[.int .i64 (i : Int), .pointer (some ⟨gt, 0, none⟩), .int .i64 ((F i).wo + T.2), .int .i64 ((T.1.length : Int) + 1)] 49) none
      have bn := BxS.new wd 49 #[.int .i64 (i : Int), .pointer (some ⟨gt, 0, none⟩), .int .i64 ((F i).wo + T.2), .int .i64 ((T.1.length : Int) + 1)]
      generalize hwn : wd.alloc (.cells #[.int .i64 (i : Int), .pointer (some ⟨gt, 0, none⟩), .int .i64 ((F i).wo + T.2), .int .i64 ((T.1.length : Int) + 1)] 49) = wn at *
      refine hKK _ _ (fun h _ => ⟨h.1.keep Gn (by simp), h.2.1.keep Gn (by simp), h.2.2.1.keep Gn (by simp), h.2.2.2.1.keep Gn (by simp), range_keep h.2.2.2.2 (Nat.lt_of_lt_of_le hlbb Gd.size) Gn⟩) ?_
      try simp only [List.getElem_toArray, List.getElem_cons_succ, List.getElem_cons_zero, Act.put, List.setIfInBounds_toArray, List.set_cons_zero, List.set_cons_succ]
      have hgn0 : l6 ≤ wd.heap.size := Nat.le_trans hl6d Gd.size
      obtain ⟨gn, hgn⟩ : ∃ g, wd.heap.size = g := ⟨_, rfl⟩
      rw [hgn] at bn hgn0 ⊢
      have hRn := hRd.keep Gn
      have hTn := hTd.keep Gn
      have hNd : Nd wn l6 (i :: T.1) ((F i).wo + T.2) gn := ⟨hgn0, gt, T.2, bn, hTn⟩
      have b5n := b5d.keep Gn (by simp)
      refine wpAnyY_oneB 20 rfl (by kernel_rfl) (fun KK hKK => ?_)
      go_simp
      refine hKK _ _ (fun h _ => ⟨h.1.keep (World.grownBy_alloc wn (.cells #[.pointer (some ⟨gn, 0, none⟩)] 45) none) (by simp), h.2.1.keep (World.grownBy_alloc wn (.cells #[.pointer (some ⟨gn, 0, none⟩)] 45) none) (by simp), h.2.2.1.keep (World.grownBy_alloc wn (.cells #[.pointer (some ⟨gn, 0, none⟩)] 45) none) (by simp), h.2.2.2.1.keep (World.grownBy_alloc wn (.cells #[.pointer (some ⟨gn, 0, none⟩)] 45) none) (by simp), range_keep h.2.2.2.2 (Nat.lt_of_lt_of_le (Nat.lt_of_lt_of_le hlbb Gd.size) Gn.size) (World.grownBy_alloc wn (.cells #[.pointer (some ⟨gn, 0, none⟩)] 45) none)⟩) ?_
      try simp only [List.getElem_toArray, List.getElem_cons_succ, List.getElem_cons_zero, Act.put, List.setIfInBounds_toArray, List.set_cons_zero, List.set_cons_succ]
      refine wpAnyY_oneB 21 rfl (by kernel_rfl) (fun KK hKK => ?_)
      refine step_of_listR rfl ?_
      refine wpList_psX Try.elP wn (.pointer (some ⟨gn, 0, none⟩)) rfl rfl _ _ rfl ra k rc l6 _ rfl hRn.o (Nat.le_trans (Nat.le_trans hl6d Gd.size) Gn.size) rfl (by omega) ?_
      intro gx cx w8 hA8 u8 hx8
      show KK _ w8
      refine hKK _ _ (fun _ h => absurd (by decide) h) ?_
      try simp only [List.getElem_toArray, List.getElem_cons_succ, List.getElem_cons_zero, Act.put, List.setIfInBounds_toArray, List.set_cons_zero, List.set_cons_succ]
      have b58 := b5n.keep u8 (fun e => hRn.o.bxR b5n (by decide) e.symm)
      refine wpAnyY_oneB 22 rfl (by kernel_rfl) (fun KK hKK => ?_)
      refine step_of_listR rfl ?_
      refine wpList_stC _ rfl _ _ _ rfl g5 0 52 _ #[.slice (some ⟨gx, 0, none⟩) (k + 1) cx] (.slice (some ⟨gx, 0, none⟩) (k + 1) cx) rfl rfl b58 (stc_ps _ _ _ _ _) (by show 0 < 1; decide) rfl ?_
      intro w9 b9 u9
      show KK _ w9
      refine hKK _ _ (fun _ h => absurd (by decide) h) ?_
      try simp only [List.getElem_toArray, List.getElem_cons_succ, List.getElem_cons_zero, Act.put, List.setIfInBounds_toArray, List.set_cons_zero, List.set_cons_succ]
      refine wpAnyY_doneB (by kernel_rfl) ?_ _
      (try simp only [Exit.inBlock, Exit.then])
      refine HK7.out _ _ ?_
      clear HK7
      go_wp2
      go_roundw
      case rel =>
        have hR8 := hRn.push u8 (r := (i :: T.1, (F i).wo + T.2)) hNd hA8
        have GX := grown_trans GW Gn
        have G8x : wB.grownBy w8 none := grown_far GX u8 (fun z e => Nat.le_trans hB6 (hRn.o.new z e))
        have b2n := ((b2b.keep Gd (by simp)).keep Gn (by simp))
        have b3n := b3d.keep Gn (by simp)
        have b28 := b2n.keep u8 (fun e => hRn.o.bxR b2n (by decide) e.symm)
        have b38 := b3n.keep u8 (fun e => hRn.o.bxR b3n (by decide) e.symm)
        refine ⟨k + 1, some ⟨gx, 0, none⟩, cx, gs ++ [gn], by omega, by go_num, b9, ?_, Nat.le_trans (Nat.le_trans (Nat.le_trans (Nat.le_trans hl6d Gd.size) Gn.size) u8.size) u9.size, grown_far G8x u9 (fun z e => by cases e; exact h5l), by rw [HLA.out]; exact b28.keep u9 (fun e => BxS.apart b28 b58 (by decide) (Option.some.inj e)), b38.keep u9 (fun e => BxS.apart b38 b58 (by decide) (Option.some.inj e)), fun j p h => ?_⟩
        · have e : rwF F g (O.take (k + 1)) = rwF F g (O.take k) ++ [(i :: T.1, (F i).wo + T.2)] := by
            rw [List.take_add_one, HIK.out]
            show rwF F g (O.take k ++ [i]) = _
            rw [rw_app, HTE.out]
            rfl
          rw [e]
          exact hR8.bx b58 (by decide) (by decide) u9
        · have h1 := cell_grR (HODd j p h) Gn
          have h2 : w8.cell? ⟨go, j, none⟩ = some (.int .i64 (p : Int)) := cell_grown h1 u8 (cell_ltR h1) (fun e => by
            have h9 := hRn.o.new go e.symm
            have h8 := hgo6 (by omega)
            omega)
          exact cell_grown h2 u9 (cell_ltR h2) (fun e => by
            have e := Option.some.inj e
            subst e
            have h3 := b58.cell1
            by_cases hj : j = 0
            · subst hj
              rw [h3] at h2
              cases h2
            · rw [cell_of_row _ _ _ _ _ _ b58] at h2
              have : j < 1 := (Array.getElem?_eq_some_iff.1 h2).1
              omega)
      case measure => simp [intOf] <;> omega
    · obtain rfl : k = ln := by omega
      have lk : ¬ (k : Int) < (k : Int) := by omega
      have hol := HOL.out
      have e : O.take k = O := List.take_of_length_le (by omega)
      rw [e] at hR
      clear e hol
      go_wp2
      refine HK3.out _ _ ?_
      clear HK3
      have hin : ∀ r, r ∈ rwF F g O → hdP r < k := fun r hr => (HOM.out _).1 (rows_ok F g _ r hr).2.2
      have hBB := best_B wr l6 g5 g2 ra k rc gs (rwF F g O) la k lc F b5r hR b2r (hP.keep GR) hin hl6r (by omega)
      clear hin
      go_wp2_with (go_at_call 19; refine hBB.mono ?_; rintro e wz ⟨gt, rfl, hTz, Gz⟩)
      first | go_ret | skip
      exact ⟨gt, O, rfl, Nd.wide hg26 hTz, HOL.out, HOM.out, HOP.out, grown_trans GR Gz⟩
end
end Go.Proofs.Ytpcejajijaphbaa
