import Derived.Test.YtpenggkefbbopaaDoorSMend
namespace Go.Proofs.YtpenggkefbbopaaDoor
open Go.RowKit
set_option maxRecDepth 100000
set_option linter.unusedVariables false
set_option linter.unusedSimpArgs false

/-- what 'decode' makes of a word: nothing, or the whole word mended, and where -/
def decO (W : List Nat) (c : Nat) (H : List Bool) : Option (List Nat × List Nat) :=
  if c < cntB H H.length then none
  else if valL W c = [] then some (W, [])
  else if valL (mendL W (accA (valL W c) c H) (accS (valL W c) c H).2) c = [] then some (mendL W (accA (valL W c) c H) (accS (valL W c) c H).2, mendN (accA (valL W c) c H) (accS (valL W c) c H).2 W.length W.length)
  else none
theorem decode_holes (g n capw lo c capb : Nat) (ab : Option Addr) (W : List Nat) (H : List Bool) (w : World) (hW : Ans w lo (some ⟨g, 0, none⟩) n capw W) (hH : RdB w ab n capb H) (hn : n ≤ 255) (hc : c ≤ 64) (hh : c < cntB H n) :
    Calls Tryd.prog 11 #[.slice (some ⟨g, 0, none⟩) n capw, .int .i64 c, .slice ab n capb] w fun e w' => e = .returned (.agg #[.slice none 0 0, .slice none 0 0, .bool true]) ∧ w.grownBy w' none := by
  have hle := cntB_le H n
  have gA := World.grownBy_alloc w (.cells #[.slice none 0 0, .slice none 0 0, .bool false] 42) none
  have HC := count_any ab n capb H _ (hH.keep gA) (by omega)
  go_enter Tryd.func11, Tryd.ntmps11
  go_wp2_with (go_at_call 16; refine HC.mono ?_; rintro e w' ⟨rfl, hw⟩; have hw := hw.symm; subst hw)
  refine bodyPost_ret (v := .agg #[.slice none 0 0, .slice none 0 0, .bool true]) (results_cell_row (p := 6) (by kernel_rfl) _ _ w.heap.size 42 _ (0, 0) _ rfl (heap_alloc_new w _) Tryd.underlying42 rfl (by kernel_rfl)) rfl ?_
  exact ⟨rfl, World.grownBy_alloc w _ none⟩
theorem three_set (w : World) (b : Nat) (x y z v0 v1 v2 : Value) (t : TypeId) (h : w.heap[b]? = some (.cells #[x, y, z] t)) :
    (((w.setCell ⟨b, 0, none⟩ v0).setCell ⟨b, 1, none⟩ v1).setCell ⟨b, 2, none⟩ v2).heap[b]? = some (.cells #[v0, v1, v2] t) := by
  have h1 := heap_setCell_same w b 0 _ _ v0 h
  have h2 := heap_setCell_same _ b 1 _ _ v1 h1
  have h3 := heap_setCell_same _ b 2 _ _ v2 h2
  exact h3
theorem three_grown (w : World) (b : Nat) (v0 v1 v2 : Value) : w.grownBy (((w.setCell ⟨b, 0, none⟩ v0).setCell ⟨b, 1, none⟩ v1).setCell ⟨b, 2, none⟩ v2) (some b) :=
  grown_trans (grown_trans (grown_set _ _ _ _) (grown_set _ _ _ _)) (grown_set _ _ _ _)
theorem decode_clean (g n capw lo c capb : Nat) (ab : Option Addr) (W : List Nat) (H : List Bool) (w : World) (hW : Ans w lo (some ⟨g, 0, none⟩) n capw W) (hH : RdB w ab n capb H) (h0 : 0 < n) (hn : n ≤ 255) (hc : c ≤ 64) (hcn : c < n) (hh : cntB H n ≤ c) (hv : valL W c = []) :
    Calls Tryd.prog 11 #[.slice (some ⟨g, 0, none⟩) n capw, .int .i64 c, .slice ab n capb] w fun e w' => e = .returned (.agg #[.slice (some ⟨g, 0, none⟩) (n - c : Nat) capw, .slice none 0 0, .bool false]) ∧ w.grownBy w' none := by
  have hle := cntB_le H n
  have gA := World.grownBy_alloc w (.cells #[.slice none 0 0, .slice none 0 0, .bool false] 42) none
  have HC := count_any ab n capb H _ (hH.keep gA) (by omega)
  have HV := values_any (some ⟨g, 0, none⟩) n capw c W _ (hW.rd.keep gA) h0 hn hc
  rw [hv] at HV
  have hncap := hW.max.1
  have hto : ((n : Int) - (c : Int)).toNat = n - c := by omega
  have hb := heap_alloc_new w (.cells #[.slice none 0 0, .slice none 0 0, .bool false] 42)
  go_enter Tryd.func11, Tryd.ntmps11
  go_wp2_with (first
    | (go_at_call 16; refine HC.mono ?_; rintro e w' ⟨rfl, hw⟩; have hw := hw.symm; subst hw)
    | (go_at_call 17; refine HV.mono ?_; rintro e w2 ⟨a2, c2, rfl, h2, g2⟩; have hb2 := (g2.block w.heap.size (by simp) (by simp)).trans hb; have hc0 := cell_of_row w2 w.heap.size 0 _ _ _ hb2; have hc1 := cell_of_row w2 w.heap.size 1 _ _ _ hb2; have hc2' := cell_of_row w2 w.heap.size 2 _ _ _ hb2; have hf0 := frozen_of_row w2 w.heap.size 0 _ _ hb2; have hf1 := frozen_of_row w2 w.heap.size 1 _ _ hb2; have hf2 := frozen_of_row w2 w.heap.size 2 _ _ hb2; simp at hc0 hc1 hc2'))
  refine bodyPost_ret (v := .agg #[.slice (some ⟨g, 0, none⟩) (n - c : Nat) capw, .slice none 0 0, .bool false]) (results_cell_row (p := 6) (by kernel_rfl) _ _ w.heap.size 42 _ (0, 0) _ rfl (three_set w2 w.heap.size _ _ _ _ _ _ _ hb2) Tryd.underlying42 rfl (by kernel_rfl)) rfl ?_
  exact ⟨rfl, grown_off (grown_trans gA g2) (three_grown w2 w.heap.size _ _ _) (fun g' e => by cases e; exact Nat.le_refl _)⟩
theorem isB_holN (H : List Bool) (n k : Nat) : IsB (holN H n k) := by
  induction k with
  | zero => intro x hx; simp [holN] at hx; omega
  | succ k ih =>
    unfold holN
    split
    · exact isB_timR ih (isB_pair 1 _ (by decide) (pow2_lt _))
    · exact ih
theorem acc_inv {K : List Nat} (hK : IsB K) (c : Nat) (hc : c ≤ 64) (H : List Bool) (hh : cntB H H.length ≤ c) : ∃ l' b', EInv c (cntB H H.length) l' (accS K c H).2 b' (accS K c H).1 ∧ 2 * (accS K c H).2.length < c + cntB H H.length + 2 := by
  have hM : IsB (accM K c H) := isB_trimL (isB_take (isB_timR hK (isB_holN _ _ _)) _)
  have hl : (accM K c H).length ≤ c := by
    have h3 := trimL_le ((timR K (holN H H.length H.length)).take c)
    rw [List.length_take] at h3
    unfold accM
    omega
  exact euc_inv hc _ _ _ _ _ (euc_start hM (trim_top _) hl hh) (Nat.le_refl _)
theorem isB_synL {W : List Nat} (h : IsB W) (c : Nat) : IsB (synL W c) := by
  intro x hx
  simp only [synL, List.mem_map] at hx
  obtain ⟨j, _, rfl⟩ := hx
  exact atL_lt' (isB_reverse h) _
theorem isB_valL {W : List Nat} (h : IsB W) (c : Nat) : IsB (valL W c) := isB_trimL (isB_synL h c)
set_option maxHeartbeats 4000000 in
theorem decode_mended (g n capw lo c capb : Nat) (ab : Option Addr) (W : List Nat) (H : List Bool) (w : World) (hW : Ans w lo (some ⟨g, 0, none⟩) n capw W) (hH : RdB w ab n capb H) (h0 : 0 < n) (hn : n ≤ 255) (hc : c ≤ 64) (hcn : c < n) (hh : cntB H n ≤ c) (hv : valL W c ≠ [])
    (A Z : List Nat) (hAA : A = accA (valL W c) c H) (hZZ : Z = (accS (valL W c) c H).2) :
    Calls Tryd.prog 11 #[.slice (some ⟨g, 0, none⟩) n capw, .int .i64 c, .slice ab n capb] w fun e w' => ∃ ap np cp, AnsI w' w.heap.size ap np cp (mendN A Z n n) ∧ Ans w' lo (some ⟨g, 0, none⟩) n capw (mendL W A Z) ∧ w.grownBy w' (some g) ∧
      e = .returned (if valL (mendL W A Z) c = [] then .agg #[.slice (some ⟨g, 0, none⟩) (n - c : Nat) capw, .slice ap np cp, .bool false] else .agg #[.slice none 0 0, .slice none 0 0, .bool true]) := by
  have hle := cntB_le H n
  have gA := World.grownBy_alloc w (.cells #[.slice none 0 0, .slice none 0 0, .bool false] 42) none
  have HC := count_any ab n capb H _ (hH.keep gA) (by omega)
  have HV := values_any (some ⟨g, 0, none⟩) n capw c W _ (hW.rd.keep gA) h0 hn hc
  obtain ⟨K, hK⟩ : ∃ K, K = valL W c := ⟨_, rfl⟩
  rw [← hK] at HV hv hAA hZZ
  have hKl : K.length ≤ c := by rw [hK]; have := trimL_le (synL W c); rw [synL_len] at this; exact this
  have hK0 : 0 < K.length := List.length_pos_iff.2 hv
  have hncap := hW.max.1
  have hto : ((n : Int) - (c : Int)).toNat = n - c := by omega
  have hb := heap_alloc_new w (.cells #[.slice none 0 0, .slice none 0 0, .bool false] 42)
  have hgw : g < w.heap.size := by
    rcases hW.cases with ⟨h, _⟩ | ⟨g', h, _, h2⟩
    · cases h
    · cases h; exact h2
  have HAA : Hid (accA K c H = A ∧ (accS K c H).2 = Z) := ⟨hAA.symm, hZZ.symm⟩
  have hAlen : A.length ≤ 1024 := by rw [hAA]; exact timR_le _ _
  have hZlen : Z.length ≤ 1024 := by
    rw [hZZ]
    have hKB : IsB K := by rw [hK]; exact isB_valL hW.byte c
    obtain ⟨l', b', e1, _⟩ := acc_inv hKB c hc H (by rw [hH.len]; exact hh)
    have e2 := e1.lt
    have e3 := e1.sum
    omega
  obtain ⟨V, hV⟩ : ∃ V, V = valL (mendL W A Z) c := ⟨_, rfl⟩
  rw [← hV]
  have HVV : Hid (valL (mendL W A Z) c = V) := hV.symm
  clear hK hAA hZZ hV
  by_cases hV0 : V = []
  · have t1 : True := trivial
    have HV0 : Hid (V = []) := hV0
    clear hV0
    go_enter Tryd.func11, Tryd.ntmps11
    go_wp2_with (first
      | (go_at_call 16; refine HC.mono ?_; rintro e w' ⟨rfl, hw⟩; have hw := hw.symm; subst hw)
      | (go_at_call 17; have _t := t1; clear t1; refine HV.mono ?_; rintro e w2 ⟨a2, c2, rfl, h2, g2⟩; have g02 := grown_trans gA g2; have hH2 := hH.keep g02; have hW2 := hW.keep g02; have t2 : True := trivial)
      | (go_at_call 18; have _t := t2; clear t2; refine (accuse_any a2 ab K.length c2 n capb c K H w2 h2.rd hH2 hKl hn hc hh).mono ?_; rintro e w3 ⟨aA, nA, cA, aZ, nZ, cZ, rfl, hA3, hZ3, g3, hNA, hNZ⟩; rw [HAA.out.1] at hA3; rw [HAA.out.2] at hZ3; have hnA := hA3.len; have hnZ := hZ3.len; have hW3 := hW2.keep g3; have t3 : True := trivial)
      | (go_at_call 19; have _t := t3; clear t3; refine (mend_any g n capw lo nA cA nZ cZ aA aZ W A Z w3 hW3 hA3 hZ3 (fun x hx e => by have h5 := hNA x hx; have h6 := g02.size; omega) (fun x hx e => by have h5 := hNZ x hx; have h6 := g02.size; omega) hn (by omega) (by omega)).mono ?_; rintro e w4 ⟨ap, np, cp, rfl, hp4, hW4, g4⟩; have t4 : True := trivial)
      | (go_at_call 17; have _t := t4; clear t4; refine (values_any (some ⟨g, 0, none⟩) n capw c (mendL W A Z) w4 hW4.rd h0 hn hc).mono ?_; rintro e w5 ⟨a5, c5, rfl, h5, g5⟩; rw [HVV.out, HV0.out] at h5; rw [HVV.out, HV0.out]; have hb2 := (g2.block w.heap.size (by simp) (by simp)).trans hb; have hb5 := (g5.block w.heap.size (Nat.lt_of_lt_of_le (Nat.lt_of_lt_of_le (Nat.lt_of_lt_of_le (by simp) g2.size) g3.size) g4.size) (by simp)).trans ((g4.block w.heap.size (Nat.lt_of_lt_of_le (Nat.lt_of_lt_of_le (by simp) g2.size) g3.size) (by simp; omega)).trans ((g3.block w.heap.size (Nat.lt_of_lt_of_le (by simp) g2.size) (by simp)).trans hb2)); have hc0 := cell_of_row w5 w.heap.size 0 _ _ _ hb5; have hc1 := cell_of_row w5 w.heap.size 1 _ _ _ hb5; have hc2' := cell_of_row w5 w.heap.size 2 _ _ _ hb5; have hf0 := frozen_of_row w5 w.heap.size 0 _ _ hb5; have hf1 := frozen_of_row w5 w.heap.size 1 _ _ hb5; have hf2 := frozen_of_row w5 w.heap.size 2 _ _ hb5; simp at hc0 hc1 hc2'))
    have gAll := grown_off (grown_trans (grown_trans (grown_weak (grown_trans g02 g3) (some g)) g4) (grown_weak g5 _)) (three_grown w5 w.heap.size (.slice (some ⟨g, 0, none⟩) (n - c : Nat) capw) (.slice ap np cp) (.bool false)) (fun g' e => by cases e; exact Nat.le_refl _)
    have hp5 := hp4.keep g5
    have hW5 := hW4.keep g5
    have h3g := three_grown w5 w.heap.size (.slice (some ⟨g, 0, none⟩) (n - c : Nat) capw) (.slice ap np cp) (.bool false)
    refine bodyPost_ret (v := .agg #[.slice (some ⟨g, 0, none⟩) (n - c : Nat) capw, .slice ap np cp, .bool false]) (results_cell_row (p := 6) (by kernel_rfl) _ _ w.heap.size 42 _ (0, 0) _ rfl (three_set w5 w.heap.size _ _ _ _ _ _ _ hb5) Tryd.underlying42 rfl (by kernel_rfl)) rfl ?_
    refine ⟨ap, np, cp, ⟨(hp5.kept h3g (.inr (fun e => ?_))).own, fun g' h => Nat.le_trans (Nat.le_trans g02.size g3.size) (hp4.new g' h)⟩, hW5.kept h3g (.inr (fun e => ?_)), gAll, rfl⟩
    · have h7 := hp4.new _ e
      have h8 := g2.size
      have h9 := g3.size
      simp at h8
      omega
    · have e2 : g = w.heap.size := Option.some.inj e
      omega
  · have t1 : True := trivial
    have hVl : 0 < V.length := List.length_pos_iff.2 hV0
    have HV0 : Hid (¬ V = []) := hV0
    clear hV0
    go_enter Tryd.func11, Tryd.ntmps11
    go_wp2_with (first
      | (go_at_call 16; refine HC.mono ?_; rintro e w' ⟨rfl, hw⟩; have hw := hw.symm; subst hw)
      | (go_at_call 17; have _t := t1; clear t1; refine HV.mono ?_; rintro e w2 ⟨a2, c2, rfl, h2, g2⟩; have g02 := grown_trans gA g2; have hH2 := hH.keep g02; have hW2 := hW.keep g02; have t2 : True := trivial)
      | (go_at_call 18; have _t := t2; clear t2; refine (accuse_any a2 ab K.length c2 n capb c K H w2 h2.rd hH2 hKl hn hc hh).mono ?_; rintro e w3 ⟨aA, nA, cA, aZ, nZ, cZ, rfl, hA3, hZ3, g3, hNA, hNZ⟩; rw [HAA.out.1] at hA3; rw [HAA.out.2] at hZ3; have hnA := hA3.len; have hnZ := hZ3.len; have hW3 := hW2.keep g3; have t3 : True := trivial)
      | (go_at_call 19; have _t := t3; clear t3; refine (mend_any g n capw lo nA cA nZ cZ aA aZ W A Z w3 hW3 hA3 hZ3 (fun x hx e => by have h5 := hNA x hx; have h6 := g02.size; omega) (fun x hx e => by have h5 := hNZ x hx; have h6 := g02.size; omega) hn (by omega) (by omega)).mono ?_; rintro e w4 ⟨ap, np, cp, rfl, hp4, hW4, g4⟩; have t4 : True := trivial)
      | (go_at_call 17; have _t := t4; clear t4; refine (values_any (some ⟨g, 0, none⟩) n capw c (mendL W A Z) w4 hW4.rd h0 hn hc).mono ?_; rintro e w5 ⟨a5, c5, rfl, h5, g5⟩; rw [HVV.out] at h5; rw [HVV.out]; have hb2 := (g2.block w.heap.size (by simp) (by simp)).trans hb; have hb5 := (g5.block w.heap.size (Nat.lt_of_lt_of_le (Nat.lt_of_lt_of_le (Nat.lt_of_lt_of_le (by simp) g2.size) g3.size) g4.size) (by simp)).trans ((g4.block w.heap.size (Nat.lt_of_lt_of_le (Nat.lt_of_lt_of_le (by simp) g2.size) g3.size) (by simp; omega)).trans ((g3.block w.heap.size (Nat.lt_of_lt_of_le (by simp) g2.size) (by simp)).trans hb2)); have hc0 := cell_of_row w5 w.heap.size 0 _ _ _ hb5; have hc1 := cell_of_row w5 w.heap.size 1 _ _ _ hb5; have hc2' := cell_of_row w5 w.heap.size 2 _ _ _ hb5; have hf0 := frozen_of_row w5 w.heap.size 0 _ _ hb5; have hf1 := frozen_of_row w5 w.heap.size 1 _ _ hb5; have hf2 := frozen_of_row w5 w.heap.size 2 _ _ hb5; simp at hc0 hc1 hc2'))
    have gAll := grown_off (grown_trans (grown_trans (grown_weak (grown_trans g02 g3) (some g)) g4) (grown_weak g5 _)) (three_grown w5 w.heap.size (.slice none 0 0) (.slice none 0 0) (.bool true)) (fun g' e => by cases e; exact Nat.le_refl _)
    have hp5 := hp4.keep g5
    have hW5 := hW4.keep g5
    have h3g := three_grown w5 w.heap.size (.slice none 0 0) (.slice none 0 0) (.bool true)
    refine bodyPost_ret (v := .agg #[.slice none 0 0, .slice none 0 0, .bool true]) (results_cell_row (p := 6) (by kernel_rfl) _ _ w.heap.size 42 _ (0, 0) _ rfl (three_set w5 w.heap.size _ _ _ _ _ _ _ hb5) Tryd.underlying42 rfl (by kernel_rfl)) rfl ?_
    refine ⟨⟨ap, np, cp, ⟨(hp5.kept h3g (.inr (fun e => ?_))).own, fun g' h => Nat.le_trans (Nat.le_trans g02.size g3.size) (hp4.new g' h)⟩⟩, hW5.kept h3g (.inr (fun e => ?_)), gAll, rfl⟩
    · have h7 := hp4.new _ e
      have h8 := g2.size
      have h9 := g3.size
      simp at h8
      omega
    · have e2 : g = w.heap.size := Option.some.inj e
      omega
end Go.Proofs.YtpenggkefbbopaaDoor
