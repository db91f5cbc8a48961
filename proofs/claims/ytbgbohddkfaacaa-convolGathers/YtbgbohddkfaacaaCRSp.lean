import Derived.Test.YtbgbohddkfaacaaCSpL
namespace Go.Proofs.Ytbgbohddkfaacaa
open Go.RowKit
set_option maxRecDepth 100000
set_option linter.unusedVariables false
set_option linter.unusedSimpArgs false

theorem rsymbols_int (z y : Int) (b s : Nat) (hz : z = (b : Int)) (hy : y = (s : Int)) (hb : b < 2) (hs : s < 64) (w : World) : Calls Try.prog 36 #[.int .i64 z, .int .i64 y] w fun e w' => e = .returned (.tuple #[.int .i64 (sy1 (2 * s + b) : Nat), .int .i64 (sy2 (2 * s + b) : Nat)]) ∧ w' = w := by
  subst hz; subst hy; exact rsymbols_any b hb s hs w
theorem and_reg (s : Nat) (hs : s < 128) : bits .and .i64 (s : Int) 63 = ((s % 64 : Nat) : Int) := by
  revert hs; revert s; decide +kernel
theorem or_reg0 (s : Nat) (hs : s < 64) : bits .or .i64 ((s : Int) * 2) 0 = ((2 * s : Nat) : Int) := or_reg s hs 0 (by decide)
theorem wrap_u8_small (s : Nat) (h : s < 256) : IntKind.u8.wrap (s : Int) = (s : Int) := by rw [IntKind.wrap_u8']; omega
set_option maxHeartbeats 4000000 in
theorem rSpread_all (a : Option Addr) (n cap : Nat) (z : Int) (B : List Nat) (w : World) (hp : Rd w a n cap B) :
    Calls Try.prog 16 #[.slice a n cap, .int .i64 z] w fun e w' => ∃ a' n' c', e = .returned (.tuple #[.slice a' n' c', .int .i64 (sprE B z)]) ∧ Ans w' w.heap.size a' n' c' (sprL B z) ∧ w.grownBy w' none := by
  have hm1 := hp.le; have hm2 := hp.max
  unfold maxLen at hm2
  by_cases hz : rateOk z
  · obtain ⟨r, rfl⟩ := Int.eq_ofNat_of_zero_le (a := z) (by have := hz.1; omega)
    have h1 : 1 ≤ r := by have := hz.1; omega
    have h2 : r ≤ 5 := by have := hz.2; omega
    go_enter Try.func16, Try.ntmps16
    by_cases hn : n ≤ 16384
    · go_wp2
      have HLn : Hid (B.length = n) := hp.len
      go_loop [6] (fun i => ∃ k : Nat, k ≤ n ∧ i = .int .i64 k ∧ ∀ j, j < k → nth B j < 2) (fun i => n - (intOf i).toNat)
      case atStart => exact ⟨0, by omega, rfl, fun j hj => by omega⟩
      case round =>
        obtain ⟨k, hk, rfl, hbk⟩ := hrel
        have HBK : Hid (∀ j, j < k → nth B j < 2) := hbk
        clear hbk
        by_cases hlt : k < n
        · obtain ⟨bb, off, rfl, hbw, hcc⟩ := hp.at' (by omega)
          have hck := hcc k hlt
          clear hcc
          by_cases hx : nth B k < 2
          · go_wp2
            go_round
            case rel => exact ⟨k + 1, by omega, by go_num, fun j hj => by
              by_cases e : j = k
              · rw [e]; exact hx
              · exact HBK.out j (by omega)⟩
            case measure => simp [intOf]; omega
          · have HE : Hid (sprE B (r : Int) = 2) := by
              show _ = _
              unfold sprE
              rw [if_pos hz, if_pos (by rw [HLn.out]; exact hn), if_neg (fun h => hx (bits_of B h k))]
            have HL : Hid (sprL B (r : Int) = []) := by show _ = _; unfold sprL; rw [HE.out, if_neg (by decide)]
            go_wp2
            go_ret2
            exact ⟨none, 0, 0, by rw [HE.out]; rfl, by rw [HL.out]; exact ans_nil _ _, World.grownBy.refl _ _⟩
        · obtain rfl : k = n := by omega
          have hbo := of_bits B (fun i hi => HBK.out i (by rw [← HLn.out]; exact hi))
          have HE : Hid (sprE B (r : Int) = 0) := by
            show _ = _
            unfold sprE
            rw [if_pos hz, if_pos (by rw [HLn.out]; exact hn), if_pos hbo]
          have HL : Hid (sprL B (r : Int) = outN r B (k + 6)) := by show _ = _; unfold sprL; rw [HE.out, if_pos rfl, HLn.out, Int.toNat_natCast]
          have hbit := bits_of B hbo
          clear hbo HBK
          rename_i n'
          go_wp2
          go_loopw [7, 8, 9] (fun o s i wr => ∃ (q co : Nat) (ao : Option Addr), q ≤ k + 6 ∧ i = .int .i64 q ∧ s = .int .i64 (stN B q : Nat) ∧ o = .slice ao (cntN r q : Nat) co ∧ w.grownBy wr none ∧ Ans wr w.heap.size ao (cntN r q) co (outN r B q)) (fun _ _ i _ => k + 6 - (intOf i).toNat)
          case atStart => exact ⟨0, 0, none, by omega, rfl, rfl, rfl, World.grownBy.refl _ _, ans_nil _ _⟩
          case round =>
            obtain ⟨q, co, ao, hq, rfl, rfl, rfl, hgr, hA⟩ := hrel
            by_cases hlt : q < k + 6
            · have hl := cntN_le r q
              have hp' := hp.keep hgr
              have Hf := fun w' => rkept_any r q false (by omega) h1 h2 w'
              have Ht := fun w' => rkept_any r q true (by omega) h1 h2 w'
              obtain ⟨b1, e1⟩ : ∃ b, kb (pF r) q = b := ⟨_, rfl⟩
              obtain ⟨b2, e2⟩ : ∃ b, kb (pS r) q = b := ⟨_, rfl⟩
              rw [e1, e2] at Hf Ht
              simp only [if_true, Bool.false_eq_true, if_false] at Hf Ht
              have HC : Hid (cntN r (q + 1) = cntN r q + kn b1 + kn b2) := cnt_step r q b1 b2 e1 e2
              have HO : Hid (outN r B (q + 1) = outN r B q ++ one? b1 (sy1 (rgN B q)) ++ one? b2 (sy2 (rgN B q))) := by rw [← e1, ← e2]; exact rfl
              have HS : Hid (stN B (q + 1) = rgN B q % 64) := rfl
              have HR : Hid (rgN B q = 2 * stN B q + nth B q) := rfl
              have hs := stN_lt B q
              have hb := hbit q
              have hrl := rgN_lt B hbit q
              have l1 := sy1_lt (rgN B q)
              have l2 := sy2_lt (rgN B q)
              have HY := fun z y hz hy w' => rsymbols_int z y (nth B q) (stN B q) hz hy hb hs w'
              have han := and_reg (rgN B q) hrl
              rw [← HR.out] at HY
              clear e1 e2
              generalize rgN B q = rg at *
              generalize stN B q = s at *
              generalize outN r B q = D at *
              generalize cntN r q = c at *
              generalize sy1 rg = s1 at *
              generalize sy2 rg = s2 at *
              have v1 := wrap_u8_small s1 (by omega)
              have v2 := wrap_u8_small s2 (by omega)
              by_cases hkn : q < k
              · obtain ⟨bb, off, rfl, hbw, hcc⟩ := hp'.at' (by omega)
                have hck := hcc q hkn
                have hor : bits .or .i64 ((s : Int) * 2) (nth B q : Nat) = (rg : Int) := by rw [HR.out]; exact or_reg s hs (nth B q) hb
                clear hcc hp hp'
                cases b1 <;> cases b2
                all_goals
                  have t1 : True := trivial
                  have t3 : True := trivial
                  go_wp2_with (first
                    | (go_at_call 36; refine (HY _ _ rfl rfl _).mono ?_; rintro e w3 ⟨rfl, hw⟩; have hw := hw.symm; subst hw)
                    | (go_at_call 37; have _t := t3; clear t3; refine (Hf _).mono ?_; rintro e w3 ⟨rfl, hw⟩; have hw := hw.symm; subst hw)
                    | (go_at_call 37; refine (Ht _).mono ?_; rintro e w3 ⟨rfl, hw⟩; have hw := hw.symm; subst hw)
                    | (at_builtin; have _t := t1; clear t1; refine wpList_push w wr rfl (.tmp 58) (.tmp 61) rfl ao c co s1 D rfl hA hgr (by omega) rfl (by omega) ?_; intro gx cx w4 hA4 hG4)
                    | (at_builtin; refine wpList_push w wr rfl (.tmp 66) (.tmp 69) rfl ao c co s2 D rfl hA hgr (by omega) rfl (by omega) ?_; intro gx cx w4 hA4 hG4)
                    | (at_builtin; refine wpList_push w w4 rfl (.tmp 66) (.tmp 69) rfl (some ⟨gx, 0, none⟩) (c + 1) cx s2 (D ++ [s1]) rfl hA4 hG4 (by omega) rfl (by omega) ?_; intro gy cy w5 hA5 hG5))
                  go_roundw
                  case rel =>
                    have e1 := HC.out
                    have e2 := HO.out
                    have e3 := HS.out
                    simp only [kn, one?, if_true, Bool.false_eq_true, if_false, List.append_nil, Nat.add_zero] at e1 e2
                    first
                      | exact ⟨q + 1, cy, some ⟨gy, 0, none⟩, by omega, by go_num, congrArg _ (by rw [e3]; omega), by rw [e1], hG5, by rw [e1, e2]; exact hA5⟩
                      | exact ⟨q + 1, cx, some ⟨gx, 0, none⟩, by omega, by go_num, congrArg _ (by rw [e3]; omega), by rw [e1], hG4, by rw [e1, e2]; exact hA4⟩
                      | exact ⟨q + 1, co, ao, by omega, by go_num, congrArg _ (by rw [e3]; omega), by rw [e1], hgr, by rw [e1, e2]; exact hA⟩
                  case measure => simp [intOf]; omega
              · have hb0' : nth B q = 0 := nth_tail B q k hp.len (by omega)
                have hor : bits .or .i64 ((s : Int) * 2) 0 = (rg : Int) := by rw [HR.out, hb0']; exact or_reg s hs 0 (by decide)
                have HRi : (rg : Int) = (s : Int) * 2 := by have := HR.out; rw [hb0'] at this; omega
                have han2 : bits .and .i64 ((s : Int) * 2) 63 = ((rg % 64 : Nat) : Int) := by rw [← HRi]; exact han
                clear hp hp'
                cases b1 <;> cases b2
                all_goals
                  have t1 : True := trivial
                  have t3 : True := trivial
                  go_wp2_with (first
                    | (go_at_call 36; refine (HY _ _ (by rw [hb0']; rfl) rfl _).mono ?_; rintro e w3 ⟨rfl, hw⟩; have hw := hw.symm; subst hw)
                    | (go_at_call 37; have _t := t3; clear t3; refine (Hf _).mono ?_; rintro e w3 ⟨rfl, hw⟩; have hw := hw.symm; subst hw)
                    | (go_at_call 37; refine (Ht _).mono ?_; rintro e w3 ⟨rfl, hw⟩; have hw := hw.symm; subst hw)
                    | (at_builtin; have _t := t1; clear t1; refine wpList_push w wr rfl (.tmp 58) (.tmp 61) rfl ao c co s1 D rfl hA hgr (by omega) rfl (by omega) ?_; intro gx cx w4 hA4 hG4)
                    | (at_builtin; refine wpList_push w wr rfl (.tmp 66) (.tmp 69) rfl ao c co s2 D rfl hA hgr (by omega) rfl (by omega) ?_; intro gx cx w4 hA4 hG4)
                    | (at_builtin; refine wpList_push w w4 rfl (.tmp 66) (.tmp 69) rfl (some ⟨gx, 0, none⟩) (c + 1) cx s2 (D ++ [s1]) rfl hA4 hG4 (by omega) rfl (by omega) ?_; intro gy cy w5 hA5 hG5))
                  go_roundw
                  case rel =>
                    have e1 := HC.out
                    have e2 := HO.out
                    have e3 := HS.out
                    simp only [kn, one?, if_true, Bool.false_eq_true, if_false, List.append_nil, Nat.add_zero] at e1 e2
                    first
                      | exact ⟨q + 1, cy, some ⟨gy, 0, none⟩, by omega, by go_num, congrArg _ (by rw [e3]; omega), by rw [e1], hG5, by rw [e1, e2]; exact hA5⟩
                      | exact ⟨q + 1, cx, some ⟨gx, 0, none⟩, by omega, by go_num, congrArg _ (by rw [e3]; omega), by rw [e1], hG4, by rw [e1, e2]; exact hA4⟩
                      | exact ⟨q + 1, co, ao, by omega, by go_num, congrArg _ (by rw [e3]; omega), by rw [e1], hgr, by rw [e1, e2]; exact hA⟩
                  case measure => simp [intOf]; omega
            · obtain rfl : q = k + 6 := by omega
              go_wp2
              go_ret2
              exact ⟨ao, _, co, by rw [HE.out]; rfl, by rw [HL.out]; exact hA, hgr⟩
    · have HE : Hid (sprE B (r : Int) = 1) := by show _ = _; unfold sprE; rw [if_pos hz, if_neg (by rw [hp.len]; exact hn)]
      have HL : Hid (sprL B (r : Int) = []) := by show _ = _; unfold sprL; rw [HE.out, if_neg (by decide)]
      go_wp2
      go_ret2
      exact ⟨none, 0, 0, by rw [HE.out]; rfl, by rw [HL.out]; exact ans_nil _ _, World.grownBy.refl _ _⟩
  · have HE : Hid (sprE B z = 6) := by show _ = _; unfold sprE; rw [if_neg hz]
    have HL : Hid (sprL B z = []) := by show _ = _; unfold sprL; rw [HE.out, if_neg (by decide)]
    by_cases hz1 : z < 1
    · clear hz
      go_enter Try.func16, Try.ntmps16
      go_wp2
      go_ret2
      exact ⟨none, 0, 0, by rw [HE.out]; rfl, by rw [HL.out]; exact ans_nil _ _, World.grownBy.refl _ _⟩
    · have hz5 : 5 < z := by unfold rateOk at hz; omega
      clear hz
      go_enter Try.func16, Try.ntmps16
      go_wp2
      go_ret2
      exact ⟨none, 0, 0, by rw [HE.out]; rfl, by rw [HL.out]; exact ans_nil _ _, World.grownBy.refl _ _⟩
end Go.Proofs.Ytbgbohddkfaacaa
