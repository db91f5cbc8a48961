import Derived.Test.YtpcejajijaphbaaPc15
import Derived.Test.YtpcejajijaphbaaPc1
namespace Go.Proofs.Ytpcejajijaphbaa
open Go.RowKit
set_option maxRecDepth 100000
set_option linter.unusedVariables false
set_option linter.unusedSimpArgs false

section
def paC : Pa := ⟨0, 0, 1, 0⟩
/-- so many places, each of them there: none comes twice -/
theorem nodup_of_len : ∀ (O : List Nat) {n : Nat}, O.length = n → (∀ p, p ∈ O ↔ p < n) → O.Nodup := by
  intro O n hl hm
  refine List.pairwise_iff_getElem.2 fun i j hi hj hij e => ?_
  have hs : List.range n ⊆ O.eraseIdx j := fun p hp => by
    obtain ⟨k, hk, ek⟩ := List.getElem_of_mem ((hm p).2 (List.mem_range.1 hp))
    rw [List.mem_eraseIdx_iff_getElem]
    by_cases h : k = j
    · subst h
      exact ⟨i, hi, by omega, by rw [e]; exact ek⟩
    · exact ⟨k, hk, h, ek⟩
  have h1 := (List.nodup_range (n := n)).length_le_of_subset hs
  rw [List.length_range, List.length_eraseIdx_of_lt hj] at h1
  omega
/-- passes in order, the latest first -/
theorem order_is (F : Nat → Pa) (n : Nat) : ∃ O : List Nat, O.length = n ∧ (∀ p, p ∈ O ↔ p < n) ∧ O.Pairwise (fun a b => (F b).fr ≤ (F a).fr) := by
  refine ⟨(List.range n).mergeSort (fun a b => decide ((F b).fr ≤ (F a).fr)), by rw [List.length_mergeSort, List.length_range], fun p => by rw [List.mem_mergeSort, List.mem_range], ?_⟩
  have h := List.pairwise_mergeSort (le := fun a b => decide ((F b).fr ≤ (F a).fr)) (fun a b c h1 h2 => decide_eq_true (by have := of_decide_eq_true h1; have := of_decide_eq_true h2; omega)) (fun a b => by
    rw [Bool.or_eq_true, decide_eq_true_iff, decide_eq_true_iff]
    omega) (List.range n)
  exact h.imp (fun h => of_decide_eq_true h)
abbrev ShP : Sh := Sh.fcons 1 (.int .i64) (.fcons 1 (.int .i64) (.fcons 1 (.int .i64) (.fcons 1 (.int .i64) .fend)))
theorem met_pass {w : World} {full : Bool} {n : Nat} {cs : List Value} (h : ShP.met w full cs n) : ∃ p : Pa, cs = p.cells ∧ p.in64 := by
  obtain ⟨n0, m0, rfl, ⟨_, a, e0, k0⟩, n1, m1, rfl, ⟨_, b, e1, k1⟩, n2, m2, rfl, ⟨_, c, e2, k2⟩, n3, m3, rfl, ⟨_, d, e3, k3⟩, e4, _⟩ := h
  refine ⟨⟨a, b, c, d⟩, ?_, bounds_i64 k0, bounds_i64 k1, bounds_i64 k2, bounds_i64 k3⟩
  unfold Pa.cells
  match cs with
  | [] => simp at e0
  | [_] => simp at e1
  | [_, _] => simp at e2
  | [_, _, _] => simp at e3
  | [x0, x1, x2, x3] => simp_all
  | x0 :: x1 :: x2 :: x3 :: x4 :: r => simp at e4
theorem shown_passes {w : World} {full : Bool} {N : Nat} {v : Value} (h : (Sh.slice 4 32 ShP).shown w full v N) : ∃ a len cap F, v = .slice a len cap ∧ RdPa w a len cap F ∧ (∀ i, i < len → (F i).in64) ∧ (a = none → len = 0 ∧ cap = 0) ∧ (full = true → cap * 32 ≤ reachBytes) := by
  have h : (Sh.slice 4 32 ShP).met w full [v] N := h
  rcases h with ⟨rfl, e⟩ | ⟨x, len, cap, G, C, e, e', hl, hm, hf, hc⟩
  · cases e
    exact ⟨none, 0, 0, fun _ => paC, rfl, ⟨Nat.le_refl _, Nat.zero_le _, (fun h => by omega)⟩, (fun i h => by omega), (fun _ => ⟨rfl, rfl⟩), (fun _ => by decide)⟩
  · cases e
    have each : ∀ i, i < cap → ∃ p : Pa, (∀ j, j < 4 → w.cell? (x.add (i * 4 + j)) = p.cells[j]?) ∧ p.in64 := by
      intro i hi
      obtain ⟨h1, h2, h3⟩ := hc i hi
      obtain ⟨p, e, hp⟩ := met_pass h3
      refine ⟨p, fun j hj => ?_, hp⟩
      rw [h2 j hj, e]
    have hI : Inhabited Pa := ⟨paC⟩
    obtain ⟨K, hK⟩ := Go.Deep.choose_lt each
    refine ⟨some x, len, cap, K, rfl, ⟨hl, hm, fun h0 => ?_⟩, (fun i hi => (hK i (by omega)).2), (fun h => by cases h), hf⟩
    obtain ⟨b, off, spot⟩ := x
    have hc0 := (hK 0 (by omega)).1 0 (by decide)
    have h0' : w.cell? (⟨b, off, spot⟩ : Addr) = some (.int .i64 (K 0).st) := by simpa [Addr.add, Pa.cells] using hc0
    have hspot : spot = none := by simpa using World.cell?_spot h0'
    subst hspot
    refine ⟨b, off, rfl, World.block_lt_of_cell? w _ h0', fun i hi j v hv => ?_⟩
    have hj : j < 4 := (List.getElem?_eq_some_iff.1 hv).1
    rw [Nat.add_assoc, ← addr_add, (hK i (by omega)).1 j hj]
    exact hv
theorem paC_ok : paC.ok := ⟨⟨by decide, by decide⟩, ⟨by decide, by decide⟩, ⟨by decide, by decide⟩, ⟨by decide, by decide⟩⟩
theorem rdPa_congr {w : World} {a : Option Addr} {n c : Nat} {F G : Nat → Pa} (h : RdPa w a n c F) (e : ∀ i, i < n → F i = G i) : RdPa w a n c G :=
  ⟨h.le, h.max, fun h0 => by
    obtain ⟨b, off, e1, e2, e3⟩ := h.at' h0
    exact ⟨b, off, e1, e2, fun i hi => by rw [← e i hi]; exact e3 i hi⟩⟩
theorem che_one {ln : Nat} {F : Nat → Pa} {g z z' : Int} (h : ChE ln F g z) (h' : ChE ln F g z') : z = z' := by
  by_cases h1 : 200 < ln
  · rw [h.a h1, h'.a h1]
  · by_cases h2 : ¬ (0 ≤ g ∧ g ≤ 1000) ∨ ∃ i, i < ln ∧ paB (F i) = false
    · rw [h.b (by omega) h2, h'.b (by omega) h2]
    · have h3 : 0 ≤ g ∧ g ≤ 1000 := Classical.byContradiction fun h => h2 (.inl h)
      have h4 : ∀ i, i < ln → paB (F i) = true := fun i hi => by
        cases e : paB (F i) with
        | true => rfl
        | false => exact absurd (.inr ⟨i, hi, e⟩) h2
      rw [h.c (by omega) h3 h4, h'.c (by omega) h3 h4]
theorem chosen_walk (la : Option Addr) (ln lc : Nat) (F0 : Nat → Pa) (g : Int) (w : World) (hP0 : RdPa w la ln lc F0) (h64 : ∀ i, i < ln → (F0 i).in64) (hn0 : la = none → ln = 0 ∧ lc = 0) (hb : ln * 32 ≤ 140737488351232) :
    Calls Try.prog 3 #[.slice la ln lc, .int .i64 g] w fun e w' => e = .returned (.bool true) ∧ w.grownBy w' none := by
  by_cases hz : ChE ln F0 g 0
  · have h2 : ln ≤ 200 := Classical.byContradiction fun h => by
      have := hz.a (by omega)
      omega
    have hg : 0 ≤ g ∧ g ≤ 1000 := Classical.byContradiction fun h => by
      have := hz.b h2 (.inl h)
      omega
    have hp : ∀ i, i < ln → paB (F0 i) = true := fun i hi => by
      cases e : paB (F0 i) with
      | true => rfl
      | false =>
        have := hz.b h2 (.inr ⟨i, hi, e⟩)
        omega
    obtain ⟨F, hF⟩ : ∃ F : Nat → Pa, F = fun i => if i < ln then F0 i else paC := ⟨_, rfl⟩
    have hFe : ∀ i, i < ln → F0 i = F i := fun i hi => by rw [hF]; exact (if_pos hi).symm
    have hok : ∀ i, (F i).ok := fun i => by
      rw [hF]
      by_cases h : i < ln
      · show (if i < ln then F0 i else paC).ok
        rw [if_pos h]
        exact (paB_ok _).1 (hp i h)
      · show (if i < ln then F0 i else paC).ok
        rw [if_neg h]
        exact paC_ok
    have hP := rdPa_congr hP0 hFe
    have hFF : ∀ i, (F i).fr < (F i).to' := fun i => by have := (hok i).to'; omega
    have hM : ∃ M : Int, ∀ i, i < ln → (F i).fr ≤ M := ⟨1000000, fun i _ => (hok i).fr.2⟩
    have key : ∀ (R : Nat → Rv) (W : Rv) (D : Nat → Bool), DI F g ln ln D R W → ∀ O : List Nat, O.length = ln → (∀ p, p ∈ O ↔ p < ln) → O.Pairwise (fun a b => (F b).fr ≤ (F a).fr) → W = bestV F g O := fun R W D hD O hl hm hp =>
      DI.best hFF hg.1 hD (nodup_of_len O hl hm) hm hp hM
    -- a best there is, with no memory
    obtain ⟨O0, hO0l, hO0m, hO0p⟩ := order_is F ln
    have hbest : ∀ O : List Nat, O.length = ln → (∀ p, p ∈ O ↔ p < ln) → O.Pairwise (fun a b => (F b).fr ≤ (F a).fr) → bestV F g O = bestV F g O0 := fun O hl hm hp => by
      have h1 := best_is F g (nodup_of_len O hl hm) hm
      have h2 := best_is F g (nodup_of_len O0 hO0l hO0m) hO0m
      have h3 := rows_one F g hFF hg.1 (rows_are F g hFF hg.1 (nodup_of_len O hl hm) hm hp) (rows_are F g hFF hg.1 (nodup_of_len O0 hO0l hO0m) hO0m hO0p) hM
      refine Ky.one h1 (h2.congr (fun r => ?_))
      constructor
      · rintro (e | ⟨j, hj, e⟩)
        · exact .inl e
        · exact .inr ⟨j, hj, by rw [h3 j hj]; exact e⟩
      · rintro (e | ⟨j, hj, e⟩)
        · exact .inl e
        · exact .inr ⟨j, hj, by rw [← h3 j hj]; exact e⟩
    have hlen : (bestV F g O0).1.length ≤ 1000 := by
      have := (top_bd F g hok (fun _ => true) O0).1
      have h9 : bestV F g O0 = topF (fun _ => true) (rwF F g O0) ([], 0) := rfl
      rw [h9]
      omega
    refine chosen_law w la ln lc F g hP hn0 hb (bestV F g O0).1 (bestV F g O0).2 0 hlen ?_ ?_
    · intro wz hz
      refine (chosen_ok wz la ln lc F g hz hok h2 hg).mono ?_
      rintro e w' ⟨R, W, p, c, ⟨D, hD⟩, rfl, hpl, hgr⟩
      have e := key R W D hD O0 hO0l hO0m hO0p
      subst e
      exact ⟨p, c, rfl, hpl, hgr⟩
    · intro wz a c hz
      refine (choose_ok wz a ln c F g hz hok h2 hg).mono ?_
      rintro e w' ⟨O, a', c', rfl, hA, hl, hm, hp, hgr⟩
      have e := hbest O hl hm hp
      rw [e] at hA ⊢
      exact ⟨a', c', rfl, hA, hgr⟩
  · by_cases hall : ∃ z, ChE ln F0 g z
    · obtain ⟨z, hzz⟩ := hall
      refine chosen_law w la ln lc F0 g hP0 hn0 hb [] 0 z (Nat.zero_le _) ?_ ?_
      · intro wz hw
        refine (chosen_no wz la ln lc F0 g hw h64 hz).mono ?_
        rintro e w' ⟨z', rfl, h1, hgr⟩
        rw [che_one h1 hzz]
        exact ⟨none, 0, rfl, AnsX.nil0 _ _ _, hgr⟩
      · intro wz a c hw
        refine (choose_no wz a ln c F0 g hw h64 hz).mono ?_
        rintro e w' ⟨z', rfl, h1, hgr⟩
        rw [che_one h1 hzz]
        exact ⟨none, 0, rfl, AnsX.nil0 _ _ _, hgr⟩
    · refine absurd ?_ hall
      by_cases h1 : 200 < ln
      · exact ⟨1, fun _ => rfl, fun h => by omega, fun h => by omega⟩
      · by_cases h2 : ¬ (0 ≤ g ∧ g ≤ 1000) ∨ ∃ i, i < ln ∧ paB (F0 i) = false
        · refine ⟨2, fun h => absurd h h1, fun _ _ => rfl, fun _ h3 h4 => ?_⟩
          rcases h2 with h2 | ⟨i, h5, h6⟩
          · exact absurd h3 h2
          · rw [h4 i h5] at h6; cases h6
        · exact ⟨0, fun h => absurd h h1, fun _ h3 => absurd h3 h2, fun _ _ _ => rfl⟩
end
end Go.Proofs.Ytpcejajijaphbaa
