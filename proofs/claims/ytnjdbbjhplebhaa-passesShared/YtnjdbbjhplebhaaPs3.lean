import Derived.Test.YtnjdbbjhplebhaaPs2
import Derived.ArgAppend
import Derived.Deep.DeepAppendWide
import Derived.Laws.AppendOwnNone
import Derived.OpenShut
import Derived.Test.YtnjdbbjhplebhaaPs1
import Derived.Deep.RegionLawGrows
namespace Go.Proofs.Ytnjdbbjhplebhaa
open Go.RowKit
set_option maxRecDepth 100000
set_option linter.unusedVariables false
set_option linter.unusedSimpArgs false

section
set_option maxHeartbeats 16000000 in
theorem hdown_any (gq g cap n : Nat) (H : List Ld) (i : Nat) (w : World) (hi : i < H.length) (hnl : n ≤ H.length) (hn : H.length ≤ 1000000) (h : QB w gq g cap H) :
    Calls Try.prog 37 #[.iface 52 (.pointer (some ⟨gq, 0, none⟩)), .int .i64 (i : Nat), .int .i64 (n : Nat)] w fun e w' => (∃ b, e = .returned (.bool b)) ∧ QB w' gq g cap (dnH ltQ ld0 n H.length H i) ∧ w.grownBy w' (some g) := by
  have HQ : Hid _ := h
  clear h
  go_enter Try.func37, Try.ntmps37
  go_wp2
  go_loopw [7] (fun iv wr => ∃ (k : Nat) (K : List Ld), iv = .int .i64 (k : Nat) ∧ k < K.length ∧ K.length = H.length ∧ QB wr gq g cap K ∧ w.grownBy wr (some g) ∧ Hid (∃ f, K.length ≤ k + f ∧ dnH ltQ ld0 n f K k = dnH ltQ ld0 n H.length H i)) (fun iv _ => H.length - (intOf iv).toNat)
  case atStart => exact ⟨i, H, rfl, hi, rfl, HQ.out, World.grownBy.refl _ _, ⟨H.length, by omega, rfl⟩⟩
  case round =>
    obtain ⟨k, K, rfl, hk, hl, hB, hg, hf⟩ := hrel
    obtain ⟨c1, hc1⟩ : ∃ c, c = 2 * k + 1 := ⟨_, rfl⟩
    obtain ⟨c2, hc2⟩ : ∃ c, c = 2 * k + 2 := ⟨_, rfl⟩
    have hd0 : (2 : Int) * (k : Int) + 1 = (c1 : Int) := by omega
    have hd1 : (c1 : Int) + 1 = (c2 : Int) := by omega
    have hd3 : ¬ (c1 : Int) < 0 := by omega
    have hk' : (k : Int) < 1000000 := by omega
    have hc1' : (c1 : Int) ≤ 3000000 := by omega
    have HHL : Hid _ := hl
    have HHK : Hid _ := hk
    have HBB : Hid _ := hB
    have HN : Hid _ := hn
    have HC1 : Hid _ := hc1
    have HC2 : Hid _ := hc2
    have HNL : Hid _ := hnl
    have HI : Hid _ := hi
    by_cases hend : n ≤ c1
    · have hend' : (n : Int) ≤ (c1 : Int) := by omega
      clear hl hk hB hn hc1 hc2 hnl hi hend
      go_wp2
      go_ret
      refine ⟨(by first | exact ⟨decide (i < k), rfl⟩ | (show Ending.returned (Value.bool (decide (i < k))) = .returned (.bool false) ∨ Ending.returned (Value.bool (decide (i < k))) = .returned (.bool true); cases decide (i < k) <;> simp)), ?_, hg⟩
      obtain ⟨f, hf1, hf2⟩ := hf.out
      rw [← hf2]
      have e : dnH ltQ ld0 n f K k = K := by
        cases f with
        | zero => rfl
        | succ f =>
          have h1 := HC1.out
          unfold dnH
          exact if_pos (by omega)
      rw [e]
      exact HBB.out
    · have hend' : decide (n ≤ c1) = false := decide_eq_false hend
      have c0 := hB.box.cell 0 (by simp)
      simp at c0
      rw [hl] at c0
      have mL := Try.mLess c0
      have C1 : ∀ wz, wr.grownBy wz none → wz.cell? ⟨gq, 0, none⟩ = some (.slice (some ⟨g, 0, none⟩) H.length cap) := fun wz hz => by
        have c1 := (hB.keep hz).box.cell 0 (by simp)
        simp at c1
        rw [← hl]
        exact c1
      have LL : ∀ a b, a < n → b < H.length → ∀ wz, wr.grownBy wz none → Calls Try.prog 60 #[.slice (some ⟨g, 0, none⟩) H.length cap, .int .i64 (a : Nat), .int .i64 (b : Nat)] wz fun e w' => e = .returned (.bool (ltQ (K.getD a ld0) (K.getD b ld0))) ∧ wz.grownBy w' none := fun a b ha hb wz hz => qless_any g H.length cap a b (K.getD a ld0) (K.getD b ld0) wz (by omega) hb hn ((hB.keep hz).row.range (by omega)) ((hB.keep hz).row.range (by omega))
      have S0 : ∀ c, c < n → ∀ wz, RwD wz g cap K → Calls Try.prog 63 #[.slice (some ⟨g, 0, none⟩) H.length cap, .int .i64 (k : Nat), .int .i64 (c : Nat)] wz fun e w' => e = .returned (.tuple #[]) ∧ RwD w' g cap (swL ld0 K k c) ∧ wz.grownBy w' (some g) := fun c hc wz hz => by
        rw [← hl]
        exact qswap_any g cap k c K wz hk (by omega) (by omega) hz
      have hendN : c1 < n := by omega
      have hkH : k < H.length := by omega
      have hcH : c1 < H.length := by omega
      have HLL : Hid _ := LL
      have HS0 : Hid _ := S0
      clear hl hk hB hn hend hc1 hc2 hnl hi LL S0
      by_cases h2 : c2 < n
      · have h2' : decide (c2 < n) = true := decide_eq_true h2
        cases hlt1 : ltQ (K.getD c2 ld0) (K.getD c1 ld0)
        · cases hlt2 : ltQ (K.getD c1 ld0) (K.getD k ld0)
          · have e2 : chH ltQ ld0 K n k = c1 := by
              unfold chH; rw [← HC2.out, ← HC1.out, if_neg (fun hh => by rw [hlt1] at hh; exact absurd hh.2 (by simp))]
            have L2 := HLL.out c1 k (by first | exact h2 | exact hendN) hkH
            rw [hlt2] at L2
            have S1 := HS0.out c1 (by first | exact h2 | exact hendN)
            have L1 := HLL.out c2 c1 h2 hcH
            rw [hlt1] at L1
            have HE2 : Hid _ := e2
            have HLT2 : Hid _ := hlt2
            have H2 : Hid _ := h2
            have HEN : Hid _ := hendN
            have HKH : Hid _ := hkH
            clear hendN hkH hcH
            clear e2 hlt2 h2 hlt1
            go_wp2_with (first
              | (go_at_call 60; refine (L1 _ (World.grownBy.refl _ _)).mono ?_; rintro e wx ⟨rfl, hgx⟩; have mL2 := Try.mLess (C1 _ hgx); refine Hid.out ?_))
            unfold Hid
            go_wp2_with (first
              | (go_at_call 60; refine (L2 _ hgx).mono ?_; rintro e wy ⟨rfl, hgy⟩; have hgy := World.grownBy.trans hgx hgy; have mS := Try.mSwap (C1 _ hgy))
              | (go_at_call 63; refine (S1 _ (QB.keep HBB.out hgy).row).mono ?_; rintro e wv ⟨rfl, hrv, hgv⟩))
            go_ret
            refine ⟨(by first | exact ⟨decide (i < k), rfl⟩ | (show Ending.returned (Value.bool (decide (i < k))) = .returned (.bool false) ∨ Ending.returned (Value.bool (decide (i < k))) = .returned (.bool true); cases decide (i < k) <;> simp)), ?_, hg.trans (hgy.but _)⟩
            obtain ⟨f, hf1, hf2⟩ := hf.out
            have e : dnH ltQ ld0 n f K k = K := by
              cases f with
              | zero => rfl
              | succ f =>
                have h1 := HC1.out
                have hendN := HEN.out
                unfold dnH
                rw [if_neg (by omega), HE2.out, if_neg (by rw [HLT2.out]; simp)]
            rw [← hf2, e]
            exact QB.keep HBB.out hgy
          · have e2 : chH ltQ ld0 K n k = c1 := by
              unfold chH; rw [← HC2.out, ← HC1.out, if_neg (fun hh => by rw [hlt1] at hh; exact absurd hh.2 (by simp))]
            have L2 := HLL.out c1 k (by first | exact h2 | exact hendN) hkH
            rw [hlt2] at L2
            have S1 := HS0.out c1 (by first | exact h2 | exact hendN)
            have L1 := HLL.out c2 c1 h2 hcH
            rw [hlt1] at L1
            have HE2 : Hid _ := e2
            have HLT2 : Hid _ := hlt2
            have H2 : Hid _ := h2
            have HEN : Hid _ := hendN
            have HKH : Hid _ := hkH
            clear hendN hkH hcH
            clear e2 hlt2 h2 hlt1
            go_wp2_with (first
              | (go_at_call 60; refine (L1 _ (World.grownBy.refl _ _)).mono ?_; rintro e wx ⟨rfl, hgx⟩; have mL2 := Try.mLess (C1 _ hgx); refine Hid.out ?_))
            unfold Hid
            go_wp2_with (first
              | (go_at_call 60; refine (L2 _ hgx).mono ?_; rintro e wy ⟨rfl, hgy⟩; have hgy := World.grownBy.trans hgx hgy; have mS := Try.mSwap (C1 _ hgy))
              | (go_at_call 63; refine (S1 _ (QB.keep HBB.out hgy).row).mono ?_; rintro e wv ⟨rfl, hrv, hgv⟩))
            have hl := HHL.out
            have hk2 := HHK.out
            have h1 := HC1.out
            have h2 := HC2.out
            have hh := H2.out
            have hendN := HEN.out
            have hkH := HKH.out
            have hnl := HNL.out
            have hn := HN.out
            refine ⟨⟨c1, swL ld0 K k c1, rfl, by rw [swL_len]; omega, by rw [swL_len]; exact hl, QB.swap (QB.keep HBB.out hgy) (swL_len _ _ _ _) hrv hgv, (hg.trans (hgy.but _)).trans hgv, ?_⟩, by simp [intOf]; omega⟩
            obtain ⟨f, hf1, hf2⟩ := hf.out
            cases f with
            | zero => omega
            | succ f =>
              refine ⟨f, by rw [swL_len]; omega, ?_⟩
              rw [← hf2]
              conv => rhs; unfold dnH
              rw [if_neg (by omega), HE2.out, if_pos HLT2.out]
        · cases hlt2 : ltQ (K.getD c2 ld0) (K.getD k ld0)
          · have e2 : chH ltQ ld0 K n k = c2 := by
              unfold chH; rw [← HC2.out, ← HC1.out, if_pos ⟨h2, hlt1⟩]
            have L2 := HLL.out c2 k (by first | exact h2 | exact hendN) hkH
            rw [hlt2] at L2
            have S1 := HS0.out c2 (by first | exact h2 | exact hendN)
            have L1 := HLL.out c2 c1 h2 hcH
            rw [hlt1] at L1
            have HE2 : Hid _ := e2
            have HLT2 : Hid _ := hlt2
            have H2 : Hid _ := h2
            have HEN : Hid _ := hendN
            have HKH : Hid _ := hkH
            clear hendN hkH hcH
            clear e2 hlt2 h2 hlt1
            go_wp2_with (first
              | (go_at_call 60; refine (L1 _ (World.grownBy.refl _ _)).mono ?_; rintro e wx ⟨rfl, hgx⟩; have mL2 := Try.mLess (C1 _ hgx); refine Hid.out ?_))
            unfold Hid
            go_wp2_with (first
              | (go_at_call 60; refine (L2 _ hgx).mono ?_; rintro e wy ⟨rfl, hgy⟩; have hgy := World.grownBy.trans hgx hgy; have mS := Try.mSwap (C1 _ hgy))
              | (go_at_call 63; refine (S1 _ (QB.keep HBB.out hgy).row).mono ?_; rintro e wv ⟨rfl, hrv, hgv⟩))
            go_ret
            refine ⟨(by first | exact ⟨decide (i < k), rfl⟩ | (show Ending.returned (Value.bool (decide (i < k))) = .returned (.bool false) ∨ Ending.returned (Value.bool (decide (i < k))) = .returned (.bool true); cases decide (i < k) <;> simp)), ?_, hg.trans (hgy.but _)⟩
            obtain ⟨f, hf1, hf2⟩ := hf.out
            have e : dnH ltQ ld0 n f K k = K := by
              cases f with
              | zero => rfl
              | succ f =>
                have h1 := HC1.out
                have hendN := HEN.out
                unfold dnH
                rw [if_neg (by omega), HE2.out, if_neg (by rw [HLT2.out]; simp)]
            rw [← hf2, e]
            exact QB.keep HBB.out hgy
          · have e2 : chH ltQ ld0 K n k = c2 := by
              unfold chH; rw [← HC2.out, ← HC1.out, if_pos ⟨h2, hlt1⟩]
            have L2 := HLL.out c2 k (by first | exact h2 | exact hendN) hkH
            rw [hlt2] at L2
            have S1 := HS0.out c2 (by first | exact h2 | exact hendN)
            have L1 := HLL.out c2 c1 h2 hcH
            rw [hlt1] at L1
            have HE2 : Hid _ := e2
            have HLT2 : Hid _ := hlt2
            have H2 : Hid _ := h2
            have HEN : Hid _ := hendN
            have HKH : Hid _ := hkH
            clear hendN hkH hcH
            clear e2 hlt2 h2 hlt1
            go_wp2_with (first
              | (go_at_call 60; refine (L1 _ (World.grownBy.refl _ _)).mono ?_; rintro e wx ⟨rfl, hgx⟩; have mL2 := Try.mLess (C1 _ hgx); refine Hid.out ?_))
            unfold Hid
            go_wp2_with (first
              | (go_at_call 60; refine (L2 _ hgx).mono ?_; rintro e wy ⟨rfl, hgy⟩; have hgy := World.grownBy.trans hgx hgy; have mS := Try.mSwap (C1 _ hgy))
              | (go_at_call 63; refine (S1 _ (QB.keep HBB.out hgy).row).mono ?_; rintro e wv ⟨rfl, hrv, hgv⟩))
            have hl := HHL.out
            have hk2 := HHK.out
            have h1 := HC1.out
            have h2 := HC2.out
            have hh := H2.out
            have hendN := HEN.out
            have hkH := HKH.out
            have hnl := HNL.out
            have hn := HN.out
            refine ⟨⟨c2, swL ld0 K k c2, rfl, by rw [swL_len]; omega, by rw [swL_len]; exact hl, QB.swap (QB.keep HBB.out hgy) (swL_len _ _ _ _) hrv hgv, (hg.trans (hgy.but _)).trans hgv, ?_⟩, by simp [intOf]; omega⟩
            obtain ⟨f, hf1, hf2⟩ := hf.out
            cases f with
            | zero => omega
            | succ f =>
              refine ⟨f, by rw [swL_len]; omega, ?_⟩
              rw [← hf2]
              conv => rhs; unfold dnH
              rw [if_neg (by omega), HE2.out, if_pos HLT2.out]
      · have h2' : decide (c2 < n) = false := decide_eq_false h2
        cases hlt2 : ltQ (K.getD c1 ld0) (K.getD k ld0)
        · have e2 : chH ltQ ld0 K n k = c1 := by
            unfold chH; rw [← HC2.out, ← HC1.out, if_neg (fun hh => h2 hh.1)]
          have L2 := HLL.out c1 k (by first | exact h2 | exact hendN) hkH
          rw [hlt2] at L2
          have S1 := HS0.out c1 (by first | exact h2 | exact hendN)
          have HE2 : Hid _ := e2
          have HLT2 : Hid _ := hlt2
          have H2 : Hid _ := h2
          have HEN : Hid _ := hendN
          have HKH : Hid _ := hkH
          clear hendN hkH hcH
          clear e2 hlt2 h2
          go_wp2_with (first
            | (go_at_call 60; refine (L2 _ (World.grownBy.refl _ _)).mono ?_; rintro e wy ⟨rfl, hgy⟩; have mS := Try.mSwap (C1 _ hgy))
            | (go_at_call 63; refine (S1 _ (QB.keep HBB.out hgy).row).mono ?_; rintro e wv ⟨rfl, hrv, hgv⟩))
          go_ret
          refine ⟨(by first | exact ⟨decide (i < k), rfl⟩ | (show Ending.returned (Value.bool (decide (i < k))) = .returned (.bool false) ∨ Ending.returned (Value.bool (decide (i < k))) = .returned (.bool true); cases decide (i < k) <;> simp)), ?_, hg.trans (hgy.but _)⟩
          obtain ⟨f, hf1, hf2⟩ := hf.out
          have e : dnH ltQ ld0 n f K k = K := by
            cases f with
            | zero => rfl
            | succ f =>
              have h1 := HC1.out
              have hendN := HEN.out
              unfold dnH
              rw [if_neg (by omega), HE2.out, if_neg (by rw [HLT2.out]; simp)]
          rw [← hf2, e]
          exact QB.keep HBB.out hgy
        · have e2 : chH ltQ ld0 K n k = c1 := by
            unfold chH; rw [← HC2.out, ← HC1.out, if_neg (fun hh => h2 hh.1)]
          have L2 := HLL.out c1 k (by first | exact h2 | exact hendN) hkH
          rw [hlt2] at L2
          have S1 := HS0.out c1 (by first | exact h2 | exact hendN)
          have HE2 : Hid _ := e2
          have HLT2 : Hid _ := hlt2
          have H2 : Hid _ := h2
          have HEN : Hid _ := hendN
          have HKH : Hid _ := hkH
          clear hendN hkH hcH
          clear e2 hlt2 h2
          go_wp2_with (first
            | (go_at_call 60; refine (L2 _ (World.grownBy.refl _ _)).mono ?_; rintro e wy ⟨rfl, hgy⟩; have mS := Try.mSwap (C1 _ hgy))
            | (go_at_call 63; refine (S1 _ (QB.keep HBB.out hgy).row).mono ?_; rintro e wv ⟨rfl, hrv, hgv⟩))
          have hl := HHL.out
          have hk2 := HHK.out
          have h1 := HC1.out
          have h2 := HC2.out
          have hh := H2.out
          have hendN := HEN.out
          have hkH := HKH.out
          have hnl := HNL.out
          have hn := HN.out
          refine ⟨⟨c1, swL ld0 K k c1, rfl, by rw [swL_len]; omega, by rw [swL_len]; exact hl, QB.swap (QB.keep HBB.out hgy) (swL_len _ _ _ _) hrv hgv, (hg.trans (hgy.but _)).trans hgv, ?_⟩, by simp [intOf]; omega⟩
          obtain ⟨f, hf1, hf2⟩ := hf.out
          cases f with
          | zero => omega
          | succ f =>
            refine ⟨f, by rw [swL_len]; omega, ?_⟩
            rw [← hf2]
            conv => rhs; unfold dnH
            rw [if_neg (by omega), HE2.out, if_pos HLT2.out]
end

section
/-- t: slices of e, whose values take one cell -/
structure ElT (t e : TypeId) (z : Value) (by' : Nat) : Prop where
  und : Try.prog.underlying t = some (.slice e)
  inf : (Try.prog.info? e).map (fun i => (i.zero, i.size, i.bytes)) = some (some z, 1, by')
  one : z.cells.size = 1
  pos : by' ≤ 16
/-- a slice as it is read -/
structure RdX (w : World) (a : Option Addr) (n cap : Nat) (X : List Value) : Prop where
  len : X.length = n
  le : n ≤ cap
  max : cap ≤ maxLen
  nil : a = none → cap = 0
  one : ∀ u, u ∈ X → u.oneCell' = true
  at' : 0 < n → ∃ b off, a = some ⟨b, off, none⟩ ∧ b < w.heap.size ∧ ∀ i u, X[i]? = some u → w.cell? ⟨b, off + i, none⟩ = some u
theorem RdX.grown {w w' : World} {a : Option Addr} {n cap : Nat} {X : List Value} {r : Option Nat} (h : RdX w a n cap X) (hg : w.grownBy w' r) (hne : ∀ b off, a = some ⟨b, off, none⟩ → some b ≠ r) : RdX w' a n cap X := by
  refine ⟨h.len, h.le, h.max, h.nil, h.one, fun h0 => ?_⟩
  obtain ⟨b, off, rfl, hb, hc⟩ := h.at' h0
  refine ⟨b, off, rfl, Nat.lt_of_lt_of_le hb hg.size, fun i u hu => ?_⟩
  exact (World.cell?_of_block (w := w) (hg.block b hb (hne b off rfl))).trans (hc i u hu)
theorem RdX.keep {w w' : World} {a : Option Addr} {n cap : Nat} {X : List Value} (h : RdX w a n cap X) (hg : w.grownBy w' none) : RdX w' a n cap X := h.grown hg (fun _ _ _ => by simp)
/-- a row of the call's own, in memory from block lo on -/
structure AnsX (e : TypeId) (w : World) (lo : Nat) (a : Option Addr) (n cap : Nat) (X : List Value) : Prop where
  own : w.ownsRow 0 e 1 (.slice a n cap) n X
  one : ∀ u, u ∈ X → u.oneCell' = true
  new : ∀ g, (Value.slice a n cap).ownBlock = some g → lo ≤ g
theorem AnsX.len {e : TypeId} {w : World} {lo : Nat} {a : Option Addr} {n cap : Nat} {X : List Value} (h : AnsX e w lo a n cap X) : X.length = n := by
  have := h.own.1; omega
theorem AnsX.cases {e : TypeId} {w : World} {lo : Nat} {a : Option Addr} {n cap : Nat} {X : List Value} (h : AnsX e w lo a n cap X) :
    (a = none ∧ n = 0 ∧ cap = 0) ∨ ∃ g, a = some ⟨g, 0, none⟩ ∧ lo ≤ g ∧ g < w.heap.size := by
  rcases h.own.2 with ⟨h1, h2⟩ | ⟨g, cap', cur, h1, _, h3, _⟩
  · simp only [Value.slice.injEq] at h1; exact .inl h1
  · simp only [Value.slice.injEq] at h1
    obtain ⟨rfl, _, _⟩ := h1
    exact .inr ⟨g, rfl, h.new g rfl, (Array.getElem?_eq_some_iff.1 h3).1⟩
theorem AnsX.ty {e : TypeId} {w : World} {lo : Nat} {g n cap : Nat} {X : List Value} (h : AnsX e w lo (some ⟨g, 0, none⟩) n cap X) : ∃ cs fr, w.heap[g]? = some (.cells cs e fr) := by
  rcases h.own.2 with ⟨h1, h2⟩ | ⟨g', cap', cur, h1, _, h3, _⟩
  · simp at h1
  · simp only [Value.slice.injEq, Option.some.injEq, Addr.mk.injEq] at h1
    obtain ⟨⟨rfl, _⟩, _⟩ := h1
    exact ⟨_, _, h3⟩
theorem AnsX.max {e : TypeId} {w : World} {lo : Nat} {a : Option Addr} {n cap : Nat} {X : List Value} (h : AnsX e w lo a n cap X) : n ≤ cap ∧ cap ≤ maxLen := by
  rcases h.own.2 with ⟨h1, h2⟩ | ⟨g, cap', cur, h1, _, h3, h4, h5, _⟩
  · simp only [Value.slice.injEq] at h1; obtain ⟨_, h6, h7⟩ := h1; subst h6; subst h7; exact ⟨Nat.le_refl _, Nat.zero_le _⟩
  · simp only [Value.slice.injEq] at h1; obtain ⟨_, _, h7⟩ := h1; subst h7; exact ⟨h4, h5⟩
theorem AnsX.kept {e : TypeId} {w w' : World} {lo : Nat} {a : Option Addr} {n cap : Nat} {X : List Value} {r : Option Nat} (h : AnsX e w lo a n cap X) (hg : w.grownBy w' r) (hne : (Value.slice a n cap).ownBlock = none ∨ (Value.slice a n cap).ownBlock ≠ r) : AnsX e w' lo a n cap X :=
  ⟨h.own.kept hg hne, h.one, h.new⟩
theorem AnsX.keep {e : TypeId} {w w' : World} {lo : Nat} {a : Option Addr} {n cap : Nat} {X : List Value} (h : AnsX e w lo a n cap X) (hg : w.grownBy w' none) : AnsX e w' lo a n cap X :=
  h.kept hg (by cases (Value.slice a n cap).ownBlock <;> simp)
theorem AnsX.lt {e : TypeId} {w : World} {lo : Nat} {a : Option Addr} {n cap : Nat} {X : List Value} (h : AnsX e w lo a n cap X) : ∀ g, (Value.slice a n cap).ownBlock = some g → g < w.heap.size := by
  intro g hg
  rcases h.cases with ⟨rfl, _, _⟩ | ⟨g', rfl, _, hl⟩
  · simp [Value.ownBlock] at hg
  · have : g' = g := by simpa [Value.ownBlock] using hg
    omega
theorem AnsX.up {e : TypeId} {w : World} {lo : Nat} {a : Option Addr} {n cap : Nat} {X : List Value} (h : AnsX e w lo a n cap X) : w.ownsRow lo e 1 (.slice a n cap) n X := by
  refine ⟨h.own.1, ?_⟩
  rcases h.own.2 with h1 | ⟨g, c1, cur, h1, h2, h3⟩
  · exact .inl h1
  · refine .inr ⟨g, c1, cur, h1, ?_, h3⟩
    simp only [Value.slice.injEq] at h1
    obtain ⟨rfl, _, _⟩ := h1
    exact h.new g rfl
theorem AnsX.cell {e : TypeId} {w : World} {lo g n cap : Nat} {X : List Value} (h : AnsX e w lo (some ⟨g, 0, none⟩) n cap X) (i : Nat) (u : Value) (hu : X[i]? = some u) : w.cell? ⟨g, i, none⟩ = some u := by
  have := h.own.cells (g := g) rfl i u hu
  rw [addr_add, Nat.zero_add] at this
  exact this
theorem AnsX.free {e : TypeId} {w : World} {lo g n cap : Nat} {X : List Value} (h : AnsX e w lo (some ⟨g, 0, none⟩) n cap X) (i : Nat) : w.frozen? ⟨g, i, none⟩ = false := h.own.frozenAt i
theorem AnsX.set {e : TypeId} {w : World} {lo g n cap : Nat} {X : List Value} (h : AnsX e w lo (some ⟨g, 0, none⟩) n cap X) (i : Nat) (u : Value) (h1 : u.oneCell' = true) : AnsX e (w.setCell ⟨g, i, none⟩ u) lo (some ⟨g, 0, none⟩) n cap (X.set i u) := by
  refine ⟨(h.own.stored i u).1, fun v hv => ?_, h.new⟩
  rcases List.mem_or_eq_of_mem_set hv with h2 | h2
  · exact h.one v h2
  · rw [h2]; exact h1
end

section
theorem own_baseG {w : World} {base : Nat} {e : TypeId} {sz : Nat} {v : Value} {n : Nat} {xs : List Value} (h : w.ownsRow base e sz v n xs) : w.ownsRow 0 e sz v n xs := by
  refine ⟨h.1, ?_⟩
  rcases h.2 with h2 | ⟨g, cap, cur, h3, h4, h5⟩
  · exact .inl h2
  · exact .inr ⟨g, cap, cur, h3, Nat.zero_le _, h5⟩
theorem wpList_apS (w : World) {ops : Array Oper} {rest : List Oper} {o : Oper} {a : Act} {Q : Exit → Act → World → Prop} (hg : o.guard = none) (s x : Operand) (t e : TypeId) (i0 : TypeInfo) (z : Value) (sz by' : Nat) (hu : Try.prog.underlying t = some (.slice e)) (hi : Try.prog.info? e = some i0) (hz0 : i0.zero = some z) (hz1 : i0.size = sz) (hz2 : i0.bytes = by') (hzs : z.cells.size = sz) (hsz : 0 < sz)
    (hop : o.op = Op.call { callee := .builtin .append, args := #[s, x], argTypes := #[t, t] }) (v : Value) (n : Nat) (xs : List Value) (hs : a.eval s = v)
    (hown : w.ownsRow 0 e sz v n xs) (ad : Addr) (m c : Nat) (news : List Value) (hx : a.eval x = .slice (some ad) m c) (hn : news.length = m * sz)
    (hc : ∀ j u, news[j]? = some u → w.cell? (ad.add j) = some u) (h1 : ∀ u, u ∈ news → u.oneCell' = true) (hm : 0 < m) (hb1 : n + m ≤ maxLen) (hb2 : (n + m) * by' ≤ 140737488355328)
    (hK : ∀ g cap w', (v.ownBlock = some g ∨ w.heap.size ≤ g) → w.grownBy w' v.ownBlock → w'.ownsRow 0 e sz (.slice (some ⟨g, 0, none⟩) (n + m) cap) (n + m) (xs ++ news) →
      wpList Try.prog ops Q rest (a.put o.dst (.slice (some ⟨g, 0, none⟩) (n + m) cap)) w') :
    wpList Try.prog ops Q (o :: rest) a w := by
  have grow : ∀ (ao : Option Addr) (cap : Nat), v = .slice ao n cap → (ao = none → n = 0 ∧ cap = 0) → (∀ b, ao = some b → ∀ j u, xs[j]? = some u → w.cell? (b.add j) = some u) → cap < n + m → wpList Try.prog ops Q (o :: rest) a w := by
    intro ao cap hv hnone hcells hfull
    refine wpList_append_grows w hg s x t hop e i0 z sz by' hu hi hz0 hz1 hz2 hzs hsz ao n cap xs (by rw [hs, hv]) hnone (by rw [hown.1]) hcells ad m c news hx hn hc h1 hfull hb1 hb2 ?_
    intro v' w' hown' hgr
    rcases hown'.2 with ⟨_, h0⟩ | ⟨g, cap', cur, rfl, hge, hrest⟩
    · omega
    · exact hK g cap' w' (.inr hge) (grown_weak hgr _) (own_baseG hown')
  rcases hown.2 with ⟨rfl, h0⟩ | ⟨g, cap, cur, rfl, hbase, hh, hle, hmax, hsz', htake⟩
  · subst h0
    exact grow none 0 rfl (fun _ => ⟨rfl, rfl⟩) (fun b hb => by cases hb) (by omega)
  · by_cases hroom : n + m ≤ cap
    · refine wpList_append_fits w hg s x t hop 0 e i0 sz hu hi hz1 g n cap xs hs hown ad m c news hx hn hc h1 hroom ?_
      intro w' hown' hgr
      exact hK g cap w' (.inl rfl) hgr hown'
    · refine grow (some ⟨g, 0, none⟩) cap rfl (fun h => by cases h) ?_ (by omega)
      intro b hb j u hu
      cases hb
      exact hown.cells (g := g) rfl j u hu

structure Fz (p : Nat → Prop) (w w' : World) : Prop where
  os : w'.os = w.os
  tape : w'.tape = w.tape
  output : w'.output = w.output
  size : w.heap.size ≤ w'.heap.size
  block : ∀ k, k < w.heap.size → ¬ p k → w'.heap[k]? = w.heap[k]?
theorem Fz.refl (p : Nat → Prop) (w : World) : Fz p w w := ⟨rfl, rfl, rfl, Nat.le_refl _, fun _ _ _ => rfl⟩
theorem Fz.step {p : Nat → Prop} {a w w' : World} {r : Option Nat} (f : Fz p a w) (h : w.grownBy w' r) (hr : ∀ k, r = some k → k < a.heap.size → p k) : Fz p a w' :=
  ⟨h.os.trans f.os, h.tape.trans f.tape, h.output.trans f.output, Nat.le_trans f.size h.size, fun k hk hn => (h.block k (Nat.lt_of_lt_of_le hk f.size) (fun e => hn (hr k e.symm hk))).trans (f.block k hk hn)⟩
theorem Fz.trans {p q : Nat → Prop} {a b c : World} (h : Fz p a b) (k : Fz q b c) (hq : ∀ i, i < a.heap.size → q i → p i) : Fz p a c :=
  ⟨k.os.trans h.os, k.tape.trans h.tape, k.output.trans h.output, Nat.le_trans h.size k.size, fun i hi hn => (k.block i (Nat.lt_of_lt_of_le hi h.size) (fun e => hn (hq i hi e))).trans (h.block i hi hn)⟩
theorem Fz.grown {p : Nat → Prop} {a b c : World} (h : a.grownBy b none) (k : Fz p b c) (hp : ∀ i, p i → a.heap.size ≤ i) : a.grownBy c none :=
  ⟨k.os.trans h.os, k.tape.trans h.tape, k.output.trans h.output, Nat.le_trans h.size k.size, fun i hi hn => (k.block i (Nat.lt_of_lt_of_le hi h.size) (fun e => by have := hp i e; omega)).trans (h.block i hi hn)⟩
theorem BxS.fz {w w' : World} {p : Nat → Prop} {g : Nat} {t : TypeId} {cs : Array Value} (h : BxS w g t cs) (hF : Fz p w w') (hn : ¬ p g) : BxS w' g t cs := (hF.block g h.lt hn).trans h
end
end Go.Proofs.Ytnjdbbjhplebhaa
