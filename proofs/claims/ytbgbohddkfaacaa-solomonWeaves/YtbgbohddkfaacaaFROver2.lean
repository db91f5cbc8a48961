import Derived.Test.YtbgbohddkfaacaaFROver
namespace Go.Proofs.Ytbgbohddkfaacaa
open Go.RowKit
set_option maxRecDepth 100000
set_option linter.unusedVariables false
set_option linter.unusedSimpArgs false

theorem set_app (A Z : List Nat) (i x : Nat) (h : i < A.length) : (A ++ Z).set i x = A.set i x ++ Z := by
  rw [List.set_append_left _ _ h]
set_option maxHeartbeats 2000000 in
theorem rover_ok (a b : Option Addr) (n m cap cap' l st : Nat) (P Q B : List Nat) (w : World) (hp : Rd w a n cap P) (hq : Rd w b m cap' Q) (hn : n ≤ 512) (hm : m ≤ 512) (hl : trimN Q m = l) (hl0 : 0 < l) (hB : B = Q.take l) (hst : st = n + 1 - l) (hle : l ≤ n) :
    Calls Try.prog 28 #[.slice a n cap, .slice b m cap'] w fun e w' => ∃ a2 n2 c2 a1 n1 c1, e = .returned (.tuple #[.slice a2 n2 c2, .slice a1 n1 c1, .int .i64 0]) ∧
      Ans w' w.heap.size a2 n2 c2 (trimL (ovS P B st st)) ∧ Ans w' w.heap.size a1 n1 c1 (trimL (ovR P B st st)) ∧ w.grownBy w' none := by
  have hlm : l ≤ m := by rw [← hl]; exact trimN_le Q m
  have HQ : Hid (trimL Q = B) := by show _ = _; unfold trimL; rw [hq.len, hl, hB]
  have htop0 : nth B (l - 1) ≠ 0 := by
    rw [hB, nth_take _ _ _ (by omega)]
    exact trimN_top Q m (l - 1) (by omega)
  have HB : Hid (B.length = l) := by show _ = _; rw [hB, List.length_take, hq.len]; omega
  have hBB : IsB B := by rw [hB]; exact isB_take hq.byte _
  have hlz : ((l : Int) == 0) = false := by simp; omega
  have HP : Hid (P.length = n) := hp.len
  have HST : Hid (st = n + 1 - l) := hst
  have hst0 : 0 < st := by omega
  have hstn : st ≤ n := by omega
  have hsteq : (n : Int) - (l : Int) = ((st - 1 : Nat) : Int) := by omega
  clear hl hB hst
  have htop := hBB.nth (l - 1)
  have hdiv : divV 1 (nth B (l - 1)) = Fld.inv (nth B (l - 1)) := by unfold divV; rw [if_neg htop0, Fld.one_mul (Fld.inv_lt htop)]
  have HD := fun w => rdiv_any 1 (nth B (l - 1)) (by decide) htop w
  simp only [hdiv] at HD
  go_enter Try.func28, Try.ntmps28
  go_wp2_with (first
    | (go_at_call 46; refine (rtrim_any b m cap' Q w hq (by omega)).mono ?_; rintro e w1 ⟨ab, nb, cb, rfl, hans1, hgr1⟩; rw [HQ.out] at hans1; have hnb : nb = l := hans1.len.symm.trans HB.out; subst hnb)
    | (at_builtin; refine wpList_clB _ rfl _ _ rfl rfl a n cap P rfl (hp.keep hgr1) (by omega) ?_; intro ar cr w2 hgr2 hans2)
    | (at_make; refine wpList_mkB _ rfl (.tmp 31) (.tmp 31) rfl _ _ n rfl rfl rfl rfl (by omega) ?_; intro w3 hb3 hg3; have hans1' := (hans1.keep (grown_trans hgr2 hg3)); have hans2' := hans2.keep hg3; obtain ⟨gb, hgb⟩ : ∃ g, ab = some ⟨g, 0, none⟩ := (hans1.cases).elim (fun h => absurd h.2.1 (by omega)) (fun h => h.elim fun g hg => ⟨g, hg.1⟩); subst hgb; obtain ⟨gr, hgr'⟩ : ∃ g, ar = some ⟨g, 0, none⟩ := (hans2.cases).elim (fun h => absurd h.2.1 (by omega)) (fun h => h.elim fun g hg => ⟨g, hg.1⟩); subst hgr'; have hct := own_cell hans1'.own (nb - 1) (by omega))
    | (go_at_call 47; refine (HD _).mono ?_; rintro e w' ⟨rfl, hw⟩; have hw := hw.symm; subst hw))
  have hgb1 : gb < w1.heap.size := by rcases hans1.cases with ⟨h, _⟩ | ⟨g, h, _, h2⟩ <;> cases h; exact h2
  have hgr2' : w1.heap.size ≤ gr ∧ gr < w2.heap.size := by rcases hans2.cases with ⟨h, _⟩ | ⟨g, h, h1, h2⟩ <;> cases h; exact ⟨h1, h2⟩
  obtain ⟨hgr2a, hgr2b⟩ := hgr2'
  have hw1 := hgr1.size
  have hw2 := hgr2.size
  have g03 := grown_trans hgr1 (grown_trans hgr2 hg3)
  have hS0 : ovS P B st 0 ++ List.replicate (n - st) 0 = List.replicate n 0 := by
    show List.replicate st 0 ++ List.replicate (n - st) 0 = _
    rw [List.replicate_append_replicate, show st + (n - st) = n by omega]
  have hB3 : Blk w3 w2.heap.size (ovS P B st 0 ++ List.replicate (n - st) 0) := by rw [hS0]; exact hb3
  have hR3 := hans2'.own
  have hO3 := hans1'.own
  have hinv := Fld.inv_lt htop
  clear hb3 hS0 hct hdiv HD hsteq
  go_loopw [12] (fun i wr => ((∃ t k : Nat, t + k + 1 = st ∧ i = .int .i64 t ∧ w.grownBy wr none ∧ wr.ownsRow 0 5 1 (.slice (some ⟨gr, 0, none⟩) n cr) n (bys (ovR P B st k)) ∧ Blk wr w2.heap.size (ovS P B st k ++ List.replicate (n - st) 0) ∧ wr.ownsRow 0 5 1 (.slice (some ⟨gb, 0, none⟩) nb cb) nb (bys B)) ∨
      (i = .int .i64 (-1) ∧ w.grownBy wr none ∧ wr.ownsRow 0 5 1 (.slice (some ⟨gr, 0, none⟩) n cr) n (bys (ovR P B st st)) ∧ Blk wr w2.heap.size (ovS P B st st ++ List.replicate (n - st) 0)))) (fun i _ => (intOf i + 1).toNat)
  case atStart => exact .inl ⟨st - 1, 0, by omega, rfl, g03, hR3, hB3, hO3⟩
  case round =>
    rcases hrel with ⟨t, k, htk, rfl, hgr, hR, hS, hO⟩ | ⟨rfl, hgr, hR, hS⟩
    · have hRB := ovR_isB hp.byte hBB st k
      have hRn := hRB.nth (t + nb - 1)
      have HTK : Hid (st - 1 - k = t) := by show _ = _; omega
      have htn : t + nb ≤ n := by have := HST.out; omega
      have htn' : t + nb - 1 < n := by omega
      have hcr := own_cell hR (t + nb - 1) htn'
      have HSl : Hid ((ovS P B st k).length = st) := ovS_length P B st k
      have hcs := hS.cell t (by rw [List.length_append, HSl.out]; omega)
      have hfs := hS.free t
      obtain ⟨c, hc⟩ : ∃ c, c = ovC (ovR P B st k) B t := ⟨_, rfl⟩
      have hC : Fld.mul (nth (ovR P B st k) (t + nb - 1)) (Fld.inv (nth B (nb - 1))) = c := by rw [hc]; unfold ovC; rw [HB.out]
      have hcl : c < 256 := by rw [hc]; exact ovC_lt hRB t
      have HC : Hid (c = ovC (ovR P B st k) B t) := hc
      clear hc
      have HRl : Hid ((ovR P B st k).length = n) := (ovR_length P B st k).trans HP.out
      have Sx := hS.set t c
      rw [set_app _ _ _ _ (by rw [HSl.out]; omega)] at Sx
      have HSn : Hid ((ovS P B st k).set t c = ovS P B st (k + 1)) := by show _ = _; rw [HC.out]; simp only [ovS]; rw [HTK.out]
      have HRn : Hid (addN (ovR P B st k) t B c nb = ovR P B st (k + 1)) := by show _ = _; rw [HC.out]; simp only [ovR]; rw [HTK.out, HB.out]
      rw [HSn.out] at Sx
      have Rx := hR.kept (grown_set wr w2.heap.size t (.int .u8 (c : Nat))) (by right; simp [Value.ownBlock]; omega)
      have Ox := hO.kept (grown_set wr w2.heap.size t (.int .u8 (c : Nat))) (by right; simp [Value.ownBlock]; omega)
      have Gx := grown_far hgr (grown_set wr w2.heap.size t (.int .u8 (c : Nat))) (fun g h => by cases h; omega)
      by_cases hc0 : c = 0
      · have hcb : ((c : Int) != 0) = false := by rw [hc0]; rfl
        have HR0 : Hid (ovR P B st k = ovR P B st (k + 1)) := by show _ = _; rw [← HRn.out, hc0, addN_zero _ _ _ _ (by rw [HRl.out]; exact htn)]
        rw [HR0.out] at Rx
        have Hc0 : Hid (c = 0) := hc0
        clear hc0
        go_wp2_with (go_at_call 45; refine (rmul_any _ _ hRn hinv _).mono ?_; rintro e w' ⟨rfl, hw⟩; have hw := hw.symm; subst hw)
        refine wp_loop_rounds 1 ?_; rw [rounds_succ]
        go_wp2
        go_roundw
        case rel =>
          by_cases ht0 : t = 0
          · obtain rfl : k + 1 = st := by omega
            exact .inr ⟨by subst ht0; rfl, Gx, Rx, Sx⟩
          · exact .inl ⟨t - 1, k + 1, by omega, by go_num, Gx, Rx, Sx, Ox⟩
        case measure => simp [intOf] <;> omega
      · have hcb : ((c : Int) != 0) = true := by simp; omega
        clear hc0
        go_wp2_with (go_at_call 45; refine (rmul_any _ _ hRn hinv _).mono ?_; rintro e w' ⟨rfl, hw⟩; have hw := hw.symm; subst hw)
        obtain ⟨wo, hwo⟩ : ∃ wo : World, wo = wr.setCell ⟨w2.heap.size, t, none⟩ (.int .u8 (c : Nat)) := ⟨_, rfl⟩
        rw [← hwo] at Sx Rx Ox Gx ⊢
        have Hwo : Hid (wo = wr.setCell ⟨w2.heap.size, t, none⟩ (.int .u8 (c : Nat))) := hwo
        clear hwo hcr hcs hfs
        go_loopw [14] (fun i wr => ∃ j : Nat, j ≤ nb ∧ i = .int .i64 j ∧ wo.grownBy wr (some gr) ∧ wr.ownsRow 0 5 1 (.slice (some ⟨gr, 0, none⟩) n cr) n (bys (addN (ovR P B st k) t B c j))) (fun i _ => nb - (intOf i).toNat)
        case atStart => exact ⟨0, by omega, rfl, World.grownBy.refl _ _, Rx⟩
        case round =>
          obtain ⟨j, hj, rfl, hgj, hRj⟩ := hrel
          have Oj := Ox.kept hgj (by right; simp [Value.ownBlock]; omega)
          by_cases hjn : j < nb
          · have hcb' := own_cell Oj j hjn
            have hcr := own_cell hRj (t + j) (by omega)
            have hfr := hRj.frozenAt (t + j)
            have hBj := hBB.nth j
            have R := own_step hRj hRB hBB hcl hgj
            have HR : Hid _ := R
            have hkj : (t : Int) + (j : Int) < (n : Int) := by omega
            have hkj' : t + j < n := by omega
            have hto : ((t : Int) + (j : Int)).toNat = t + j := by omega
            have hwr : IntKind.i64.wrap ((t : Int) + (j : Int)) = ((t + j : Nat) : Int) := by rw [wrap_i64_in _ (by omega) (by omega)]; omega
            clear R
            go_wp2
            go_region_with (go_at_call 45; refine (rmul_any _ _ hcl hBj _).mono ?_; rintro e w' ⟨rfl, rfl⟩)
            all_goals
              go_wp2
              go_roundw
              case rel => exact ⟨j + 1, by omega, by go_num, HR.out.2, HR.out.1⟩
              case measure => simp [intOf]; omega
          · obtain rfl : j = nb := by omega
            rw [HRn.out] at hRj
            have Sj := Sx.grown hgj (by simp; omega)
            have Gj := grown_far Gx hgj (fun g h => by cases h; omega)
            go_wp2
            go_roundw
            case rel =>
              by_cases ht0 : t = 0
              · obtain rfl : k + 1 = st := by omega
                exact .inr ⟨by subst ht0; rfl, Gj, hRj, Sj⟩
              · exact .inl ⟨t - 1, k + 1, by omega, by go_num, Gj, hRj, Sj, Oj⟩
            case measure => simp [intOf] <;> omega
    · have hRB := ovR_isB hp.byte hBB st st
      have hSB : IsB (ovS P B st st ++ List.replicate (n - st) 0) := isB_append (ovS_isB hp.byte hBB st st) (isB_zeros _)
      have hrs := hS.rd hSB (n := n) (by rw [List.length_append, ovS_length, List.length_replicate]; omega) (by unfold maxLen; omega)
      have hAr : Ans wr 0 (some ⟨gr, 0, none⟩) n cr (ovR P B st st) := ⟨hR, hRB, fun g _ => Nat.zero_le _⟩
      have t1 : True := trivial
      go_wp2_with (first
        | (go_at_call 46; have _t := t1; clear t1; refine (rtrim_any _ _ _ _ _ hrs (by omega)).mono ?_; rintro e w4 ⟨a2, n2, c2, rfl, hans4, hg4⟩; have hAr' := hAr.keep hg4; have t2 : True := trivial)
        | (go_at_call 46; have _t := t2; clear t2; refine (rtrim_any _ _ _ _ _ hAr'.rd (by omega)).mono ?_; rintro e w5 ⟨a1, n1, c1, rfl, hans5, hg5⟩))
      go_ret3
      rw [trimL_zeros] at hans4
      have h4 := hans4.keep hg5
      refine ⟨_, _, _, _, _, _, rfl, ⟨h4.own, h4.byte, fun g hg => Nat.le_trans hgr.size (h4.new g hg)⟩, ⟨hans5.own, hans5.byte, fun g hg => Nat.le_trans (Nat.le_trans hgr.size hg4.size) (hans5.new g hg)⟩, grown_trans hgr (grown_trans hg4 hg5)⟩
end Go.Proofs.Ytbgbohddkfaacaa
