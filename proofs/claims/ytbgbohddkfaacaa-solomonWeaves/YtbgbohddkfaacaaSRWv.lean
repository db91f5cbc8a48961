import Derived.Test.YtbgbohddkfaacaaSWeave
namespace Go.Proofs.Ytbgbohddkfaacaa
open Go.RowKit
set_option maxRecDepth 100000
set_option linter.unusedVariables false
set_option linter.unusedSimpArgs false

/-- the document's block: the data, and of so many rows the checks -/
def rwF (L : List Nat) (d c j p : Nat) : Nat := if p < L.length then nth L p else if p % d < j then nth (encL (pickL L (p % d) d) c) (p / d) else 0
/-- one row more, its checks up to i -/
def rwG (L : List Nat) (d c j i p : Nat) : Nat := if p % d = j ∧ L.length / d ≤ p / d ∧ p / d < i then nth (encL (pickL L j d) c) (p / d) else rwF L d c j p
theorem rwG_set (L : List Nat) (d c j i p : Nat) (hj : j < d) (hi : L.length / d ≤ i) : (if i * d + j = p then nth (encL (pickL L j d) c) i else rwG L d c j i p) = rwG L d c j (i + 1) p := by
  obtain ⟨h1, h2⟩ := dm i d j hj
  unfold rwG
  by_cases e : i * d + j = p
  · rw [if_pos e, ← e, h1, h2, if_pos ⟨rfl, hi, by omega⟩]
  · rw [if_neg e]
    by_cases e2 : p % d = j ∧ L.length / d ≤ p / d ∧ p / d < i
    · rw [if_pos e2, if_pos ⟨e2.1, e2.2.1, by omega⟩]
    · rw [if_neg e2, if_neg ?_]
      rintro ⟨e3, e4, e5⟩
      have e6 : p / d = i := by
        by_cases e7 : p / d < i
        · exact absurd ⟨e3, e4, e7⟩ e2
        · omega
      exact e (by rw [← e3, ← e6]; exact (dm_eq p d).symm)
theorem rwG_start (L : List Nat) (d c j p : Nat) : rwG L d c j (L.length / d) p = rwF L d c j p := by
  unfold rwG; rw [if_neg (by omega)]
theorem rwG_end (L : List Nat) (d c j k p : Nat) (hj : j < d) (hk : L.length = k * d) (hp : p < k * d + c * d) : rwG L d c j (k + c) p = rwF L d c (j + 1) p := by
  have hd : 0 < d := by omega
  have hkk : L.length / d = k := by rw [hk, Nat.mul_div_cancel _ hd]
  have hpd : p / d < k + c := (Nat.div_lt_iff_lt_mul hd).2 (by rw [Nat.add_mul]; exact hp)
  have hge : k ≤ p / d ↔ k * d ≤ p := Nat.le_div_iff_mul_le hd
  unfold rwG rwF
  rw [hkk, hk]
  by_cases e : p < k * d
  · rw [if_neg (fun h => by have := hge.1 h.2.1; omega), if_pos e, if_pos e]
  · rw [if_neg e, if_neg e]
    by_cases e2 : p % d = j
    · rw [if_pos ⟨e2, hge.2 (by omega), hpd⟩, if_pos (by omega), e2]
    · rw [if_neg (fun h => e2 h.1)]
      by_cases e3 : p % d < j
      · rw [if_pos e3, if_pos (by omega)]
      · rw [if_neg e3, if_neg (by omega)]

set_option maxHeartbeats 4000000 in
theorem rweave_ok (a : Option Addr) (n cap d c k : Nat) (L : List Nat) (w : World) (hp : Rd w a n cap L) (hd1 : 1 ≤ d) (hd : d ≤ 8) (hk : n = k * d) (hk1 : 1 ≤ k) (hc1 : 1 ≤ c) (hc : c ≤ 64) (hkc : k + c ≤ 255) :
    Calls Try.prog 14 #[.slice a n cap, .int .i64 d, .int .i64 c] w fun e w' => ∃ a' n' c', e = .returned (.tuple #[.slice a' n' c', .int .i64 0]) ∧ Ans w' w.heap.size a' n' c' (weaveL L d c) ∧ w.grownBy w' none := by
  have hd0 : 0 < d := by omega
  have hnn : n ≤ 2040 := by rw [hk]; exact Nat.le_trans (Nat.mul_le_mul (show k ≤ 255 by omega) hd) (by decide)
  have hn0 : 0 < n := by rw [hk]; exact Nat.mul_pos (by omega) hd0
  have hnz : ((n : Int) == 0) = false := by simp; omega
  have hmod : n % d = 0 := by rw [hk]; exact Nat.mul_mod_left _ _
  have hr : (n : Int) % (d : Int) = 0 := by have := congrArg (fun x : Nat => (x : Int)) hmod; simpa using this
  have hr2 : (n : Int).tmod (d : Int) = 0 := by rw [Int.tmod_eq_emod_of_nonneg (by omega)]; exact hr
  have hquo : (n : Int).tdiv (d : Int) = (k : Int) := by rw [hk, Int.natCast_mul, Int.mul_tdiv_cancel _ (by omega)]
  have hquo2 : (n : Int) / (d : Int) = (k : Int) := by rw [hk, Int.natCast_mul, Int.mul_ediv_cancel _ (by omega)]
  have hdz : ((d : Int) == 0) = false := by simp; omega
  have HF := sized_yes ((k : Int) + c) c w (by omega) (by omega) (by omega) (by omega)
  obtain ⟨y, hy⟩ : ∃ y, y = c * d := ⟨_, rfl⟩
  have hy8 : y ≤ 512 := by rw [hy]; exact Nat.le_trans (Nat.mul_le_mul hc hd) (by decide)
  have hy0 : 0 < y := by rw [hy]; exact Nat.mul_pos (by omega) hd0
  have hyz : (d : Int) * (c : Int) = (y : Int) := by rw [hy, Int.natCast_mul, Int.mul_comm]
  have HY : Hid (y = c * d) := hy
  have HK : Hid (n = k * d) := hk
  have HL : Hid (L.length = n) := hp.len
  have HLd : Hid (L.length / d = k) := by show _ = _; rw [hp.len, hk, Nat.mul_div_cancel _ hd0]
  clear hy hk hmod
  go_enter Try.func14, Try.ntmps14
  go_wp2_with (first
    | (go_at_call 24; refine HF.mono ?_; rintro e w' ⟨rfl, hw⟩; have hw := hw.symm; subst hw; have t1 : True := trivial)
    | (at_builtin; have _t := t1; clear t1; refine wpList_clB _ rfl _ (.tmp 49) rfl rfl a n cap L rfl hp (by omega) ?_; intro a1 c1 w1 hg1 hA1; have t2 : True := trivial)
    | (at_builtin; have _t := t2; clear t2; refine wpList_apZ _ rfl (.tmp 51) (.tmp 54) rfl _ n y L rfl rfl hA1.own hn0 hy0 (by omega) ?_; intro gu cu w2 hgu hgr2 hown2))
  have hgul : w.heap.size ≤ gu := by
    rcases hgu with h | h
    · exact hA1.new gu h
    · exact Nat.le_trans hg1.size h
  have g02 := grown_far hg1 hgr2 (hA1.far _ (Nat.le_refl _))
  have hU0 : Ans w2 w.heap.size (some ⟨gu, 0, none⟩) (n + y) cu (L ++ List.replicate y 0) := ⟨hown2, isB_append hp.byte (isB_zeros _), fun g h => by have e : gu = g := Option.some.inj h; omega⟩
  obtain ⟨N, hNN⟩ : ∃ N, N = n + y := ⟨_, rfl⟩
  rw [← hNN] at hU0 ⊢
  have hN2 : N ≤ 4000 := by omega
  have HN : Hid (N = k * d + c * d) := by show _ = _; rw [hNN, HK.out, HY.out]
  have HN' : Hid (N = n + y) := hNN
  clear hNN HF hown2 hgr2 hA1 hgu hr hr2 hquo hquo2
  go_loopw [10] (fun i wr => ∃ j : Nat, j ≤ d ∧ i = .int .i64 j ∧ w.grownBy wr none ∧ ∃ D, Ans wr w.heap.size (some ⟨gu, 0, none⟩) N cu D ∧ ∀ p, p < N → nth D p = rwF L d c j p) (fun i _ => d - (intOf i).toNat)
  case atStart =>
    refine ⟨0, by omega, rfl, g02, _, hU0, fun p hp' => ?_⟩
    unfold rwF
    by_cases e : p < L.length
    · rw [if_pos e, nth_append_left _ _ _ e]
    · rw [if_neg e, if_neg (Nat.not_lt_zero _)]
      unfold nth
      rw [List.getD_eq_getElem?_getD, List.getElem?_append_right (by omega), ← List.getD_eq_getElem?_getD]
      exact nth_zeros _ _
  case round =>
    obtain ⟨j, hj, rfl, hgr, D, hA, hD⟩ := hrel
    have HD : Hid (∀ p, p < N → nth D p = rwF L d c j p) := hD
    have HDl : Hid (D.length = N) := hA.len
    clear hD
    by_cases hlt : j < d
    · obtain ⟨wo, rfl⟩ : ∃ wo : World, wo = wr := ⟨_, rfl⟩
      have HP : Hid ((pickL L j d).length = k) := by show _ = _; rw [pickL_len, HLd.out]
      have hBp := isB_pickL hp.byte j d
      go_wp2
      go_loopw [11, 12] (fun r i wx => ∃ (q co : Nat) (ao : Option Addr), q ≤ k ∧ i = .int .i64 q ∧ r = .slice ao q co ∧ wo.grownBy wx none ∧ Ans wx wo.heap.size ao q co ((pickL L j d).take q)) (fun _ i _ => k - (intOf i).toNat)
      case atStart => exact ⟨0, 0, none, by omega, rfl, rfl, World.grownBy.refl _ _, ans_nil _ _⟩
      case round =>
        obtain ⟨q, co, ao, hq, rfl, rfl, hgx, hR⟩ := hrel
        obtain ⟨wx, rfl⟩ : ∃ wx : World, wx = wr := ⟨_, rfl⟩
        by_cases hlq : q < k
        · obtain ⟨x, hx⟩ : ∃ x, x = q * d := ⟨_, rfl⟩
          have hxn : x + j < n := by
            have h1 : (q + 1) * d ≤ k * d := Nat.mul_le_mul_right _ (by omega)
            rw [Nat.add_mul] at h1
            have := HK.out
            omega
          have hx8 : x ≤ 2040 := by omega
          have hxz : (q : Int) * (d : Int) = (x : Int) := by rw [hx, Int.natCast_mul]
          have HX : Hid (x = q * d) := hx
          clear hx
          obtain ⟨b1, off1, hb1e, hbw1, hcc⟩ := (hp.keep (grown_trans hgr hgx)).at' (by omega)
          subst hb1e
          have hck := hcc (x + j) hxn
          have hto : ((x : Int) + (j : Int)).toNat = x + j := by omega
          have hixn : (x : Int) + (j : Int) < (n : Int) := by omega
          have hOo := hR.own.alloc (.cells #[.int .u8 (nth L (x + j) : Nat)] 5)
          have gA := grown_trans hgx (World.grownBy_alloc wx (.cells #[.int .u8 (nth L (x + j) : Nat)] 5) none)
          have HT : Hid ((pickL L j d).take q ++ [nth L (x + j)] = (pickL L j d).take (q + 1)) := by
            show _ = _
            rw [take_snoc _ _ (by rw [HP.out]; exact hlq), nth_pickL _ _ _ _ (by rw [HLd.out]; exact hlq), HX.out]
          clear hcc
          go_wp2_with (at_builtin; refine wpList_apB _ rfl (.tmp 66) (.tmp 75) rfl (.slice ao q co) q (bys ((pickL L j d).take q)) rfl hOo ⟨wx.heap.size, 0, none⟩ 1 1 [.int .u8 (nth L (x + j) : Nat)] rfl rfl (cell_one wx _) (by simp [Value.oneCell']) (by decide) (by omega) ?_; intro gx cx' w3 hgxx hgr3 hown3)
          rw [bys_add, HT.out] at hown3
          have hG3 := grown_far gA hgr3 (hR.far _ (Nat.le_refl _))
          have hgxl : wo.heap.size ≤ gx := by
            rcases hgxx with h | h
            · exact hR.new gx h
            · exact Nat.le_trans gA.size h
          go_wp2
          go_roundw
          case rel => exact ⟨q + 1, cx', some ⟨gx, 0, none⟩, by omega, by go_num, rfl, hG3, ⟨hown3, isB_take hBp _, fun g h => by have e : gx = g := Option.some.inj h; omega⟩⟩
          case measure => simp [intOf]; omega
        · have hqk : q = k := by omega
          subst hqk
          rw [List.take_of_length_le (by rw [HP.out]; exact Nat.le_refl _)] at hR
          have hAx := hA.keep hgx
          go_wp2_with (go_at_call 10; refine (rencode_ok ao q co c (pickL L j d) wx hR.rd (by omega) hc1 hc hkc).mono ?_; rintro e w4 ⟨aw, nw, cw, rfl, hE4, g4⟩)
          have hnw : nw = q + c := by have := hE4.len; rw [encL_len, HP.out] at this; omega
          subst hnw
          have hA4 := hAx.keep g4
          have hgu4 : gu < wx.heap.size := by
            rcases hAx.cases with ⟨h, _⟩ | ⟨g, h, _, h2⟩
            · cases h
            · cases h; exact h2
          go_loopw [15] (fun i wy => ∃ z : Nat, q ≤ z ∧ z ≤ q + c ∧ i = .int .i64 z ∧ w4.grownBy wy (some gu) ∧ ∃ D2, Ans wy w.heap.size (some ⟨gu, 0, none⟩) N cu D2 ∧ ∀ p, p < N → nth D2 p = rwG L d c j z p) (fun i _ => q + c - (intOf i).toNat)
          case atStart => exact ⟨q, by omega, by omega, rfl, World.grownBy.refl _ _, D, hA4, fun p hp' => by rw [HD.out p hp', ← HLd.out, rwG_start]⟩
          case round =>
            obtain ⟨z, hz1, hz2, rfl, hgy, D2, hA5, hD2⟩ := hrel
            obtain ⟨wy, rfl⟩ : ∃ wy : World, wy = wr := ⟨_, rfl⟩
            have HD2 : Hid (∀ p, p < N → nth D2 p = rwG L d c j z p) := hD2
            have HDl2 : Hid (D2.length = N) := hA5.len
            clear hD2
            by_cases hlz : z < q + c
            · obtain ⟨x, hx⟩ : ∃ x, x = z * d := ⟨_, rfl⟩
              have hxN : x + j < N := by
                have h1 : (z + 1) * d ≤ (q + c) * d := Nat.mul_le_mul_right _ (by omega)
                rw [Nat.add_mul, Nat.add_mul] at h1
                have := HN.out
                omega
              have hxz : (z : Int) * (d : Int) = (x : Int) := by rw [hx, Int.natCast_mul]
              have HX : Hid (x = z * d) := hx
              clear hx
              have hEy := hE4.rd.grown' hgy (fun _ b off e => by
                rcases hE4.cases with ⟨h1, _⟩ | ⟨g, h1, h2, _⟩
                · rw [h1] at e; cases e
                · rw [h1] at e; cases e; simp; omega)
              obtain ⟨b1, off1, hb1e, hbw1, hcc⟩ := hEy.at' (by omega)
              subst hb1e
              have hck := hcc z hlz
              have hbk := hE4.byte.nth z
              have hcu := own_cell hA5.own (x + j) hxN
              have hfu := hA5.own.frozenAt (x + j)
              have hS := hA5.set (x + j) (nth (encL (pickL L j d) c) z) hbk
              have hto : ((x : Int) + (j : Int)).toNat = x + j := by omega
              have hixn : (x : Int) + (j : Int) < (N : Int) := by omega
              clear hcc
              go_wp2
              go_roundw
              case rel =>
                refine ⟨z + 1, by omega, by omega, by go_num, grown_trans hgy (grown_set _ _ _ _), _, hS, fun p hp' => ?_⟩
                rw [nth_set _ _ _ _ (by rw [HDl2.out]; exact hxN), HD2.out p hp', HX.out]
                exact rwG_set L d c j z p hlt (by rw [HLd.out]; exact hz1)
              case measure => simp [intOf]; omega
            · have hze : z = q + c := by omega
              subst hze
              have gy := grown_far (grown_trans hgr (grown_trans hgx g4)) hgy (fun g e => by cases e; exact hgul)
              go_wp2
              go_roundw
              case rel => exact ⟨j + 1, by omega, by go_num, gy, D2, hA5, fun p hp' => by rw [HD2.out p hp']; exact rwG_end L d c j q p hlt (by rw [HL.out]; exact HK.out) (by rw [← HN.out]; exact hp')⟩
              case measure => simp [intOf]; omega
    · have hjd : j = d := by omega
      subst hjd
      have HE : Hid (D = weaveL L j c) := by
        show _ = _
        refine list_ext (by rw [HDl.out, weaveL_len, HL.out, HN'.out, HY.out]) fun p hp' => ?_
        rw [HDl.out] at hp'
        rw [nth_weaveL _ _ _ _ (by rw [HL.out, ← HY.out, ← HN'.out]; exact hp'), HD.out p hp']
        unfold rwF
        by_cases e : p < L.length
        · rw [if_pos e, weave_front hp.byte j c p k hd0 (by rw [HL.out]; exact HK.out) hc hkc e]
        · rw [if_neg e, if_pos (Nat.mod_lt _ hd0)]
      rw [HE.out] at hA
      go_wp2
      go_ret2
      exact ⟨_, _, _, rfl, hA, hgr⟩
end Go.Proofs.Ytbgbohddkfaacaa
