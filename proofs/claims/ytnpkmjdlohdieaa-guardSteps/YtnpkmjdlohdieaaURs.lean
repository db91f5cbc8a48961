import Derived.Test.YtnpkmjdlohdieaaUGr
namespace Go.Proofs.Ytnpkmjdlohdieaa
open Go.RowKit
set_option maxRecDepth 100000
set_option linter.unusedVariables false
set_option linter.unusedSimpArgs false
set_option maxHeartbeats 8000000 in
/-- the first of numbers of which p is true -/
theorem indexS_any (p : Int → Bool) (cp : Value) (a : Option Addr) (n cap : Nat) (S : List Int) (w : World) (h : RdX w a n cap (zys S)) (hn : n ≤ 1000) (hP : ∀ k, k < n → Calls Try.prog 60 #[.int .i64 (nthI S k), cp] w fun e w' => e = .returned (.bool (p (nthI S k))) ∧ w' = w) :
    Calls Try.prog 59 #[.slice a n cap, .func (.func 60) #[] #[cp]] w fun e w' => (e = .returned (.int .i64 (-1)) ∧ (∀ i, i < n → p (nthI S i) = false) ∨ ∃ k : Nat, k < n ∧ e = .returned (.int .i64 k) ∧ p (nthI S k) = true ∧ ∀ i, i < k → p (nthI S i) = false) ∧ w' = w := by
  go_enter Try.func59, Try.ntmps59
  go_wp2
  go_loop [8] (fun i => ∃ k : Nat, k ≤ n ∧ i = .int .i64 k ∧ ∀ i, i < k → p (nthI S i) = false) (fun i => n - (intOf i).toNat)
  case atStart => exact ⟨0, by omega, rfl, fun i h => by omega⟩
  case round =>
    obtain ⟨k, hk, rfl, HK⟩ := hrel
    have HK' : Hid (∀ i, i < k → p (nthI S i) = false) := HK
    clear HK
    by_cases hlt : k < n
    · have hlt' : (k : Int) < (n : Int) := by omega
      obtain ⟨b, off, rfl, hbw, _⟩ := h.at' (by omega)
      have c1 := h.atI k hlt
      have hq := hP k hlt
      have HP : Hid (p (nthI S k) = p (nthI S k)) := rfl
      clear h hP
      cases hpq : p (nthI S k)
      · rw [hpq] at hq
        have HQ : Hid (p (nthI S k) = false) := hpq
        clear hpq HP
        go_wp2_with (go_at_call 60; refine hq.mono ?_; rintro e w1 ⟨rfl, hw⟩; have hw := hw.symm; subst hw)
        go_round
        case rel => exact ⟨k + 1, by omega, by go_num, fun i hi => by
          by_cases e : i = k
          · subst e; exact HQ.out
          · exact HK'.out i (by omega)⟩
        case measure => simp [intOf] <;> omega
      · rw [hpq] at hq
        have HQ : Hid (p (nthI S k) = true) := hpq
        clear hpq HP
        go_wp2_with (go_at_call 60; refine hq.mono ?_; rintro e w1 ⟨rfl, hw⟩; have hw := hw.symm; subst hw)
        go_ret
        exact ⟨.inr ⟨k, hlt, rfl, HQ.out, HK'.out⟩, rfl⟩
    · have hlt' : ¬ (k : Int) < (n : Int) := by omega
      obtain rfl : k = n := by omega
      go_wp2
      go_ret
      exact ⟨.inl ⟨rfl, HK'.out⟩, rfl⟩
/-- why the craft is made safe -/
def rsI (F : Nat → Mo) (Fr : List Int) (tl : Nat) (G : Gd) (qu : Int) : Int :=
  match Fr.find? (fun z => (F z.toNat).ti == 3) with
  | some z => z
  | none => if G.mo ≤ (tl : Int) then -3 else if 0 < G.si ∧ qu = G.si then -2 else -1
theorem find_at (p : Int → Bool) (S : List Int) (k : Nat) (hk : k < S.length) (h1 : p (nthI S k) = true) (h2 : ∀ i, i < k → p (nthI S i) = false) : S.find? p = some (nthI S k) := by
  have e : nthI S k = S[k] := by unfold nthI; rw [List.getD_eq_getElem?_getD, List.getElem?_eq_getElem hk]; rfl
  rw [e] at h1 ⊢
  rw [List.find?_eq_some_iff_getElem]
  refine ⟨h1, k, hk, rfl, fun j hj => ?_⟩
  have := h2 j hj
  unfold nthI at this
  rw [List.getD_eq_getElem?_getD, List.getElem?_eq_getElem (by omega)] at this
  rw [show p S[j] = false from this]; rfl
theorem find_no (p : Int → Bool) (S : List Int) (h : ∀ i, i < S.length → p (nthI S i) = false) : S.find? p = none := by
  rw [List.find?_eq_none]
  intro x hx
  obtain ⟨i, hi, rfl⟩ := List.mem_iff_getElem.1 hx
  have := h i hi
  unfold nthI at this
  rw [List.getD_eq_getElem?_getD, List.getElem?_eq_getElem hi] at this
  rw [show p S[i] = false from this]; simp
theorem reason1_any (bq g : Nat) (z : Nat) (ma : Option Addr) (n mc : Nat) (F : Nat → Mo) (w : World) (c0 : w.cell? ⟨bq, 0, none⟩ = some (.pointer (some ⟨g, 0, none⟩))) (c6 : w.cell? ⟨g, 6, none⟩ = some (.slice ma n mc)) (hM : RdM w ma n mc F) (hz : z < n) (hn : n ≤ 32) : Calls Try.prog 60 #[.int .i64 (z : Int), .pointer (some ⟨bq, 0, none⟩)] w fun e w' => e = .returned (.bool ((F z).ti == 3)) ∧ w' = w := by
  obtain ⟨b, off, rfl, hbw, _⟩ := hM.at' (by omega)
  obtain ⟨k0, k1, k2, k3, k4, k5⟩ := hM.six z hz
  have hz' : (z : Int) < (n : Int) := by omega
  clear hM
  generalize F z = m at *
  go_enter Try.func60, Try.ntmps60
  go_wp2
  go_ret
  exact ⟨rfl, rfl⟩
set_option maxHeartbeats 16000000 in
theorem reason_any (w0 : World) (g : Nat) (G : Gd) (A : Va) (D : Vi) (fa : Option Addr) (fn fc : Nat) (Fr : List Int) (F : Nat → Mo) (w : World) (h : WV w0 w g G A D fa fn fc Fr) (hM : RdM w0 G.ma G.n G.mc F) (hn : G.n ≤ 32) (hs0 : 0 ≤ G.si) (hfr : Fr.length ≤ 100) (hmem : ∀ z, z ∈ Fr → ∃ j : Nat, j < G.n ∧ z = (j : Int)) :
    Calls Try.prog 49 #[.pointer (some ⟨g, 0, none⟩)] w fun e w' => e = .returned (.int .i64 (rsI F Fr D.tr.length G D.qu)) ∧ w.grownBy w' none := by
  have b0 := BxS.new w 65 #[.pointer (some ⟨g, 0, none⟩)]
  have g0 := World.grownBy_alloc w (.cells #[.pointer (some ⟨g, 0, none⟩)] 65) none
  generalize hw0 : w.alloc (.cells #[.pointer (some ⟨g, 0, none⟩)] 65) = wb at b0 g0
  have h := h.keep g0
  have x0 : wb.cell? ⟨w.heap.size, 0, none⟩ = some (.pointer (some ⟨g, 0, none⟩)) := b0.cell 0 (by show 0 < 1; decide)
  have bx := h.box
  unfold wvA at bx
  obtain ⟨c0, c1, c2, c3, c4, c5, c6, c7, c8, c9, c10, c11⟩ := bx.cell12
  have hMb := hM.lw h.L
  have lf : Fr.length = fn := by rw [← zys_length]; exact h.f.len
  have lt : D.tr.length = A.nt := by rw [← zys_length]; exact h.v.t.len
  have hR := h.f.rd
  have hI := indexS_any (fun z => (F z.toNat).ti == 3) (.pointer (some ⟨w.heap.size, 0, none⟩)) fa fn fc Fr wb hR (by omega) (fun k hk => by
    have hm : nthI Fr k ∈ Fr := by
      unfold nthI
      rw [List.getD_eq_getElem?_getD, List.getElem?_eq_getElem (by omega)]
      exact List.getElem_mem _
    obtain ⟨j, hj, e⟩ := hmem _ hm
    have := reason1_any w.heap.size g j G.ma G.n G.mc F wb x0 c6 hMb hj hn
    rw [e, Int.toNat_natCast]
    exact this)
  have hff := find_at (fun z => (F z.toNat).ti == 3) Fr
  have hfn := find_no (fun z => (F z.toNat).ti == 3) Fr
  rw [lf] at hff hfn
  obtain ⟨R, HR0⟩ : ∃ R, rsI F Fr D.tr.length G D.qu = R := ⟨_, rfl⟩
  have HR : Hid (rsI F Fr D.tr.length G D.qu = R) := HR0
  rw [HR0]
  unfold rsI at HR
  rw [lt] at HR
  clear HR0
  have HFF : Hid (∀ k, k < fn → (fun z => (F z.toNat).ti == 3) (nthI Fr k) = true → (∀ i, i < k → (fun z => (F z.toNat).ti == 3) (nthI Fr i) = false) → Fr.find? (fun z => (F z.toNat).ti == 3) = some (nthI Fr k)) := hff
  have HFN : Hid ((∀ i, i < fn → (fun z => (F z.toNat).ti == 3) (nthI Fr i) = false) → Fr.find? (fun z => (F z.toNat).ti == 3) = none) := hfn
  clear hff hfn
  have hmxf := hR.max
  have hmlf := hR.le
  have hmm : maxLen ≤ 9223372036854775807 := by decide
  clear lf lt hM hMb hmem
  have hp1 : ∀ k : Nat, k < fn → ∃ fb fo, fa = some ⟨fb, fo, none⟩ ∧ wb.cell? ⟨fb, fo + k, none⟩ = some (.int .i64 (nthI Fr k)) ∧ (k : Int) < (fn : Int) := by
    intro k hk
    obtain ⟨fb, fo, efa, _, hc⟩ := hR.at' (by omega)
    exact ⟨fb, fo, efa, hc k _ (zys_at Fr k (by rw [← zys_length, hR.len]; exact hk)), by omega⟩
  clear hR
  go_enter Try.func49, Try.ntmps49
  go_wp2_with (go_at_call 59; refine hI.mono ?_; rintro e w1 ⟨hr, hw⟩; have hw := hw.symm; subst hw; rcases hr with ⟨rfl, hr⟩ | ⟨k, hk, rfl, hr1, hr2⟩; rotate_left; obtain ⟨fb, fo, efa, ck, hk0⟩ := hp1 k hk; rw [efa] at c11; have HS := HFF.out k hk hr1 hr2; rw [HS] at HR; clear HS hr1 hr2 hI; rotate_left; have HS := HFN.out hr; rw [HS] at HR; clear HS hr hI)
  · -- none of them
    by_cases h1 : G.mo ≤ (A.nt : Int)
    · rw [if_pos h1] at HR
      go_quiet (fail)
      go_wp2
      go_ret
      exact ⟨by rw [← HR.out]; rfl, grown_trans g0 (grown_drewN wb nq none)⟩
    · rw [if_neg h1] at HR
      have h1' : ¬ G.mo ≤ (A.nt : Int) := h1
      go_quiet (fail)
      obtain ⟨c0, c1, c2, c3, c4, c5, c6, c7, c8, c9, c10, c11⟩ := (bx.keep (grown_drewN wb nq none) (by simp)).cell12
      have x1 : (wb.drewN nq).cell? ⟨w.heap.size, 0, none⟩ = some (.pointer (some ⟨g, 0, none⟩)) := (b0.keep (grown_drewN wb nq none) (by simp)).cell 0 (by show 0 < 1; decide)
      have GG := grown_trans g0 (grown_drewN wb nq none)
      generalize wb.drewN nq = w3 at *
      clear nq
      by_cases h2 : 0 < G.si
      · by_cases h3 : D.qu = G.si
        · rw [if_pos ⟨h2, h3⟩] at HR
          have h3' : (D.qu == G.si) = true := by rw [h3]; simp
          go_wp2
          go_quiet (fail)
          go_wp2
          go_ret
          exact ⟨by rw [← HR.out]; rfl, grown_trans GG (grown_drewN w3 nq none)⟩
        · rw [if_neg (fun h => h3 h.2)] at HR
          have h3' : (D.qu == G.si) = false := beq_false_of_ne h3
          go_wp2
          go_quiet (fail)
          go_wp2
          go_ret
          exact ⟨by rw [← HR.out]; rfl, grown_trans GG (grown_drewN w3 nq none)⟩
      · rw [if_neg (fun h => h2 h.1)] at HR
        have h20 : G.si = 0 := by omega
        rw [h20] at c7
        clear h2 h20
        go_wp2
        go_quiet (fail)
        go_wp2
        go_ret
        exact ⟨by rw [← HR.out]; rfl, grown_trans GG (grown_drewN w3 nq none)⟩
  · go_ret
    exact ⟨by rw [← HR.out]; rfl, g0⟩
end Go.Proofs.Ytnpkmjdlohdieaa
