import Derived.Test.YthdjpbfknbafgaaTSn
namespace Go.Proofs.Ythdjpbfknbafgaa
open Go.RowKit Go.Shelf
set_option maxRecDepth 100000
set_option linter.unusedVariables false
set_option linter.unusedSimpArgs false
attribute [local go_sem] Oper.semAt_some

theorem rd_takeT {w : World} {g n c p : Nat} {L : List Nat} (h : Rd w (some ⟨g, 0, none⟩) n c L) (hp : p ≤ n) : Rd w (some ⟨g, 0, none⟩) p c (L.take p) := by
  have hl := h.len
  refine ⟨by rw [List.length_take]; omega, by have := h.le; omega, h.max, (fun e => by cases e), fun x hx => h.byte x (List.mem_of_mem_take hx), fun h0 => ?_⟩
  obtain ⟨b, o, e, hb, hc⟩ := h.at' (by omega)
  refine ⟨b, o, e, hb, fun i hi => ?_⟩
  rw [nth_takeT _ _ _ hi]
  exact hc i (by omega)
theorem rd_dropT {w : World} {g n c p : Nat} {L : List Nat} (h : Rd w (some ⟨g, 0, none⟩) n c L) (hp : p ≤ n) : Rd w (some ⟨g, p, none⟩) (n - p) (c - p) (L.drop p) := by
  have hl := h.len
  have hle := h.le
  have hmx := h.max
  refine ⟨by rw [List.length_drop]; omega, by omega, by omega, (fun e => by cases e), fun x hx => h.byte x (List.mem_of_mem_drop hx), fun h0 => ?_⟩
  obtain ⟨b, o, e, hb, hc⟩ := h.at' (by omega)
  cases e
  refine ⟨g, p, rfl, hb, fun i hi => ?_⟩
  have := hc (p + i) (by omega)
  rw [nth_dropT]
  rw [Nat.zero_add] at this
  exact this
set_option maxHeartbeats 16000000 in
theorem slip_walk (L0 F0 H0 M0 i2 i3 : Int) (mo bi : Bool) (ap : Option Addr) (np cp : Nat) (V : List Value) (Ps : List (List Nat)) (w0 : World) (hP : PsX w0 ap np cp V Ps) (hnp : np * 24 ≤ 140737488351232)
    (hL0 : -9223372036854775808 ≤ L0 ∧ L0 ≤ 9223372036854775807) (hF0 : -9223372036854775808 ≤ F0 ∧ F0 ≤ 9223372036854775807) (hH0 : -9223372036854775808 ≤ H0 ∧ H0 ≤ 9223372036854775807) (hM0 : -9223372036854775808 ≤ M0 ∧ M0 ≤ 9223372036854775807) (hi2 : -9223372036854775808 ≤ i2 ∧ i2 ≤ 9223372036854775807) (hi3 : -9223372036854775808 ≤ i3 ∧ i3 ≤ 9223372036854775807) :
    Calls Try.prog 6 #[.agg #[.int .i64 L0, .int .i64 F0, .int .i64 H0, .int .i64 M0], .slice ap np cp, .int .i64 i2, .int .i64 i3, .bool mo, .bool bi] w0 fun e w' => e = .returned (.bool true) ∧ w0.grownBy w' none := by
  go_enter Try.func6, Try.ntmps6
  have g0 := World.grownBy_alloc w0 (.cells #[.int .i64 L0, .int .i64 F0, .int .i64 H0, .int .i64 M0] 23) none
  have b0 := BxS.new w0 23 #[.int .i64 L0, .int .i64 F0, .int .i64 H0, .int .i64 M0]
  have HP : Hid _ := hP
  clear hP
  refine wp_seq_k fun K0 hK0 => ?_
  have HK0 : Hid _ := hK0
  clear hK0
  go_wp2
  (try simp only [Exit.inBlock, Exit.then])
  refine HK0.out _ _ ?_
  clear HK0
  refine wp_seq_k fun K1 hK1 => ?_
  have HK1 : Hid _ := hK1
  clear hK1
  refine wp_mono (Q := fun e a' w' => e = .normal ∧ K1 a' w') (sl_1 _ _ w0.heap.size L0 F0 H0 M0 b0 hL0 hF0 hH0 hM0 (fun c a a' w _ h => by cases h.1) ?_) (fun e a' w' h => by obtain ⟨rfl, h⟩ := h; exact h)
  intro l f h m W1 z29 z30 z31 z32 z33 z34 z35 z36 z37 z38 z39 z40 z41 z42 hl hf hh hm b1 g1
  refine ⟨rfl, ?_⟩
  (try simp only [Exit.inBlock, Exit.then])
  refine HK1.out _ _ ?_
  clear HK1
  have F01 : Frm (fun _ => False) w0 W1 := (Frm.of (p := fun _ => False) g0 (fun k e _ => by cases e)).trans (Frm.of (p := fun k => k = w0.heap.size) g1 (fun k e _ => (Option.some.inj e).symm)) (fun k hk h => by omega)
  obtain ⟨L, hL⟩ : ∃ L, L = 1 + l := ⟨_, rfl⟩
  rw [← hL] at b1
  have hL1 : 1 ≤ L := by omega
  have hL2 : L ≤ 40 := by omega
  clear hL
  have c0 : W1.cell? ⟨w0.heap.size, 0, none⟩ = some (.int .i64 (L : Nat)) := b1.cell 0 (by show 0 < 4; decide)
  have B1 : Hid _ := b1
  have HF01 : Hid _ := F01
  clear b0 g0 g1 F01 b1
  refine wp_seq_k fun K2 hK2 => ?_
  have HK2 : Hid _ := hK2
  clear hK2
  refine wp_mono (Q := fun e a' w' => e = .normal ∧ K2 a' w') (sl_2 _ W1 w0.heap.size L np cp ap V Ps hL1 hL2 c0 (HP.out.keepF HF01.out) (by omega) (fun c a a' w _ h => by cases h.1) ?_) (fun e a' w' h => by obtain ⟨rfl, h⟩ := h; exact h)
  intro a7 n7 c7 a8 c8 V8 ds W2 z43 z44 z45 z46 z47 z48 z49 z50 z51 z52 z53 z54 hA hX hR hd hds F2
  refine ⟨rfl, ?_⟩
  (try simp only [Exit.inBlock, Exit.then])
  refine HK2.out _ _ ?_
  clear HK2
  have b2 : BxS W2 w0.heap.size 23 #[.int .i64 (L : Nat), .int .i64 (f : Nat), .int .i64 (h : Nat), .int .i64 (m : Nat)] := (F2.block _ (BxS.lt B1.out) (fun h => h)).trans B1.out
  have F02 := HF01.out.trans F2 (fun _ _ h => h)
  have hz0 := HF01.out.size
  have hz2 := F02.size
  have hdl1 : ∀ d, d ∈ ds → d.length = L := fun d h => (hd d h).1
  have hdp : ∀ d, d ∈ ds → 0 < d.length := fun d h => by rw [hdl1 d h]; omega
  have hlen := catF_len ds hdl1
  have hal := hA.len
  obtain ⟨N, hN⟩ : ∃ N, N = ds.length := ⟨_, rfl⟩
  rw [← hN] at hX hds hlen
  simp only [← hN]
  have HN : Hid _ := hN
  clear hN
  have hN2 : 2 ≤ N := hds.1
  have hN20 : N ≤ 20 := hds.2
  obtain ⟨SZ, hSZ⟩ : ∃ SZ, SZ = 32 + 8 * L := ⟨_, rfl⟩
  have hSi : (32 : Int) + 8 * (L : Int) = (SZ : Int) := by omega
  have HSZ : Hid _ := hSZ
  have HLE : Hid (n7 = N * SZ) := by show _ = _; rw [hSZ, ← hlen, hal]
  have hSb : 40 ≤ SZ ∧ SZ ≤ 352 := by omega
  have hn7 : n7 ≤ 20 * 352 := by rw [HLE.out]; exact Nat.mul_le_mul hN20 hSb.2
  have c2 : W2.cell? ⟨w0.heap.size, 0, none⟩ = some (.int .i64 (L : Nat)) := b2.cell 0 (by show 0 < 4; decide)
  clear hSZ hlen hal hds c0
  refine wp_seq_k fun K3 hK3 => ?_
  have HK3 : Hid _ := hK3
  clear hK3
  go_wp2
  (try simp only [Exit.inBlock, Exit.then])
  refine HK3.out _ _ ?_
  clear HK3
  refine wp_seq_k fun K5 hK5 => ?_
  have HK5 : Hid _ := hK5
  clear hK5
  go_wp2
  (try simp only [Exit.inBlock, Exit.then])
  refine HK5.out _ _ ?_
  clear HK5
  refine wp_seq_k fun K6 hK6 => ?_
  have HK6 : Hid _ := hK6
  clear hK6
  go_wp2_with (go_at_call 13; refine (pickT_any i2 ((N : Int) - 1) _ hi2.1 hi2.2 (by omega) (by omega)).mono ?_; rintro e wz ⟨k, hk, rfl, hw⟩; have hw := hw.symm; subst hw)
  (try simp only [Exit.inBlock, Exit.then])
  refine HK6.out _ _ ?_
  clear HK6
  have hk1 : k + 1 < N := by omega
  clear hk
  obtain ⟨M, hM⟩ : ∃ M, M = k * SZ := ⟨_, rfl⟩
  have hMb : M + SZ + SZ ≤ n7 := by
    rw [HLE.out, hM]
    have h1 : (k + 1 + 1) * SZ ≤ N * SZ := Nat.mul_le_mul_right _ (by omega)
    rw [mulS, mulS] at h1
    exact h1
  have hMi : IntKind.i64.wrap ((k : Int) * (SZ : Int)) = (M : Int) := by
    have h1 : (k : Int) * (SZ : Int) = (M : Int) := by rw [hM]; push_cast; rfl
    rw [h1, IntKind.wrap_i64] <;> omega
  have HM : Hid _ := hM
  clear hM
  refine wp_seq_k fun K7 hK7 => ?_
  have HK7 : Hid _ := hK7
  clear hK7
  go_wp2_with (go_at_call 13; refine (pickT_any i3 (8 * (L : Int)) _ hi3.1 hi3.2 (by omega) (by omega)).mono ?_; rintro e wz ⟨v, hv, rfl, hw⟩; have hw := hw.symm; subst hw; obtain ⟨p, hp⟩ : ∃ p : Nat, p = M + 32 + v := ⟨_, rfl⟩; have hpp : (M : Int) + 32 + (v : Int) = (p : Int) := (by omega); have HPE : Hid _ := hp; have hv8 : v < 8 * L := (by omega); have hpl : p + 1 < n7 := (by have := HSZ.out; omega); have hp32 : 32 ≤ p := (by omega); clear hp hv)
  (try simp only [Exit.inBlock, Exit.then])
  refine HK7.out _ _ ?_
  clear HK7
  have hcap := hA.max
  obtain ⟨g7, rfl⟩ : ∃ g7, a7 = some ⟨g7, 0, none⟩ := by
    rcases hA.cases with ⟨_, h2, _⟩ | ⟨g7, h1, _⟩
    · omega
    · exact ⟨g7, h1⟩
  have hAr := hA.rd
  have rT := rd_takeT hAr (show p ≤ n7 by omega)
  have hl7 : g7 < W2.heap.size := (row_lt hA.own rfl).1
  have hbl2 : (catF ds).length = n7 := hA.len
  have hpi : (p : Int) ≤ (n7 : Int) := by omega
  have hpc : (p : Int) ≤ (c7 : Int) := by omega
  have hcp : ¬ c7 = p := by omega
  have hcp1 : ¬ c7 = p + 1 := by omega
  have HBL : Hid _ := hbl2
  have hX0 : AnsX 25 W2 w0.heap.size a8 N c8 V8 := hX.low hz0
  have hR0 : PiR W2 V8 ds w0.heap.size (fun k => (Value.slice (some ⟨g7, 0, none⟩) n7 c7).ownBlock = some k) := ⟨hR.len, fun i v B h1 h2 => by
    obtain ⟨g, c, e, h3, h4, h5⟩ := hR.at' i v B h1 h2
    exact ⟨g, c, e, h3, by omega, h5⟩⟩
  have bF : ∀ WF, Frm (fun _ => False) W2 WF → BxS WF w0.heap.size 23 #[.int .i64 (L : Nat), .int .i64 (f : Nat), .int .i64 (h : Nat), .int .i64 (m : Nat)] := fun WF FF => (FF.block _ (BxS.lt b2) (fun h => h)).trans b2
  have XF : ∀ WF, Frm (fun _ => False) W2 WF → AnsX 25 WF w0.heap.size a8 N c8 V8 := fun WF FF => hX0.frm FF (fun _ _ h => h)
  have PF : ∀ WF, Frm (fun _ => False) W2 WF → PiR WF V8 ds w0.heap.size (fun _ => False) := fun WF FF => hR0.frm (fun _ => False) FF (fun _ h => h.elim) hdp (fun _ h => h.elim)
  have HMM := HM.out
  have hpE : p = k * (32 + 8 * L) + 32 + v := by rw [HPE.out, HMM, HSZ.out]
  have HPP : Hid _ := hpE
  have HHM : Hid _ := HMM
  have HR0 : Hid _ := hR0
  have HBF : Hid _ := bF
  have HXF : Hid _ := XF
  have HPF : Hid _ := PF
  clear hA hX hR hR0 hX0 bF XF PF hbl2 HMM hpE hMi hpp
  refine wp_seq_k fun K8 hK8 => ?_
  have HK8 : Hid _ := hK8
  clear hK8
  go_wp2_with (refine wpList_jnT W2 rfl _ _ rfl none 0 0 w0.heap.size [] rfl (ans_nil _ _) (by omega) (some ⟨g7, 0, none⟩) p c7 ((catF ds).take p) rfl rT (by omega) (by omega) ?_; intro g9 d9 w3 hA3 g3 hx3)
  (try simp only [Exit.inBlock, Exit.then])
  refine HK8.out _ _ ?_
  clear HK8
  have F3 : Frm (fun _ => False) W2 w3 := Frm.of g3 (fun k e _ => by cases e)
  have hz3 := F3.size
  have hg9 : W2.heap.size ≤ g9 := by
    rcases hx3 with h | h
    · cases h
    · exact h
  have hA3' : Ans w3 w0.heap.size (some ⟨g9, 0, none⟩) p d9 ((catF ds).take p) := by
    have := hA3
    rw [Nat.zero_add] at this
    exact this
  have hz9 : (0 : Nat) + p = p := Nat.zero_add p
  try simp only [hz9]
  have hAr3 := Rd.keepF (p := fun _ => False) hAr F3
  clear hA3 g3 hx3 hz9
  refine wp_seq_k fun K9 hK9 => ?_
  have HK9 : Hid _ := hK9
  clear hK9
  go_wp2
  (try simp only [Exit.inBlock, Exit.then])
  refine HK9.out _ _ ?_
  clear HK9
  cases mo with
  | false =>
    have rD := rd_dropT hAr3 (show p + 1 ≤ n7 by omega)
    have hp1 : (p : Int) + 1 = ((p + 1 : Nat) : Int) := by omega
    obtain ⟨p1, hp1e⟩ : ∃ p1, p1 = p + 1 := ⟨_, rfl⟩
    rw [← hp1e] at rD hp1 hcp1
    have hp1i : (p1 : Int) ≤ (n7 : Int) := by omega
    have hp1c : (p1 : Int) ≤ (c7 : Int) := by omega
    have HP1 : Hid _ := hp1e
    have hnd : 0 < n7 - p1 := by omega
    have hnb : p + (n7 - p1) ≤ 20000 := by omega
    clear hp1e
    refine wp_seq_k fun K10 hK10 => ?_
    have HK10 : Hid _ := hK10
    clear hK10
    go_wp2_with (refine wpList_jnT w3 rfl _ _ rfl (some ⟨g9, 0, none⟩) p d9 w0.heap.size ((catF ds).take p) rfl hA3' (by omega) (some ⟨g7, p1, none⟩) (n7 - p1) (c7 - p1) ((catF ds).drop p1) rfl rD hnd (by omega) ?_; intro g10 d10 w4 hA4 g4 hx4)
    (try simp only [Exit.inBlock, Exit.then])
    refine HK10.out _ _ ?_
    clear HK10
    have F4 : Frm (fun k => k = g9) w3 w4 := Frm.of g4 (fun k e _ => by
      have e2 : g9 = k := Option.some.inj e
      exact e2.symm)
    have FF := F3.trans F4 (fun k hk h => by omega)
    have hAs : Ans w4 w0.heap.size (some ⟨g10, 0, none⟩) (p + (n7 - p1)) d10 (slB (catF ds) (k * (32 + 8 * L) + 32 + v) 0 false) := by
      rw [← HPP.out]
      have := hA4
      rw [HP1.out] at this ⊢
      exact this
    exact sl_18 w0 w4 w0.heap.size N L SZ f h m k v 0 (-1) false a8 _ _ c8 _ V8 ds HN.out.symm hN20 hL1 hL2 HSZ.out (by omega) (by omega) (by omega) hk1 hv8 rfl hnb (HBF.out w4 FF) hAs (HXF.out w4 FF) (HPF.out w4 FF) hd (F02.trans FF (fun _ _ h => h))
  | true =>
    have key : ∀ x : Nat, x < 2 → ∀ (w4 w5 : World) (g10 d10 g11 d11 : Nat), Ans w5 w0.heap.size (some ⟨g11, 0, none⟩) (p + 1 + (n7 - p)) d11 (((catF ds).take p ++ [x]) ++ (catF ds).drop p) → Frm (fun _ => False) W2 w5 → Ans w5 w0.heap.size (some ⟨g11, 0, none⟩) (p + 1 + (n7 - p)) d11 (slB (catF ds) (k * (32 + 8 * L) + 32 + v) x true) := fun x _ w4 w5 g10 d10 g11 d11 hA _ => by
      rw [← HPP.out]; exact hA
    have rD3 := rd_dropT hAr3 (show p ≤ n7 by omega)
    have hnd : 0 < n7 - p := by omega
    have hnb : p + 1 + (n7 - p) ≤ 20000 := by omega
    cases bi with
    | false =>
      have r1 : Rd (w3.alloc (.cells #[.int .u8 0] 5)) (some ⟨w3.heap.size, 0, none⟩) 1 1 [0] := rd_oneT w3 0 (by decide)
      have Fx : Frm (fun _ => False) w3 (w3.alloc (.cells #[.int .u8 0] 5)) := Frm.of (World.grownBy_alloc w3 _ none) (fun k e _ => by cases e)
      have hAx := hA3'.frm Fx (fun _ _ h => h)
      have hzx : w3.heap.size ≤ (w3.alloc (.cells #[.int .u8 0] 5)).heap.size := Fx.size
      have t1 : True := trivial
      refine wp_seq_k fun K10 hK10 => ?_
      have HK10 : Hid _ := hK10
      clear hK10
      go_wp2_with (first
        | (have _t := t1; clear t1; refine wpList_jnT _ rfl _ _ rfl (some ⟨g9, 0, none⟩) p d9 w0.heap.size ((catF ds).take p) rfl hAx (by omega) (some ⟨w3.heap.size, 0, none⟩) 1 1 [0] rfl r1 (by decide) (by omega) ?_; intro g10 d10 w4 hA4 g4 hx4; have t2 : True := trivial; have F4 : Frm (fun k => k = g9) (w3.alloc (.cells #[.int .u8 0] 5)) w4 := Frm.of g4 (fun k e _ => (Option.some.inj e).symm); have hz4 := F4.size; have rD4 := rd_frm (rd_frm rD3 Fx (fun h => h)) F4 (fun h => by omega); have HF4 : Hid _ := F4; have HX4 : Hid _ := hx4; clear F4 g4 hx4)
        | (have _t := t2; clear t2; refine wpList_jnT _ rfl _ _ rfl (some ⟨g10, 0, none⟩) (p + 1) d10 w0.heap.size ((catF ds).take p ++ [0]) rfl hA4 (by omega) (some ⟨g7, p, none⟩) (n7 - p) (c7 - p) ((catF ds).drop p) rfl rD4 hnd (by omega) ?_; intro g11 d11 w5 hA5 g5 hx5))
      (try simp only [Exit.inBlock, Exit.then])
      refine HK10.out _ _ ?_
      clear HK10
      have F5 : Frm (fun k => k = g10) w4 w5 := Frm.of g5 (fun k e _ => by
        have e2 : g10 = k := Option.some.inj e
        exact e2.symm)
      have FF := ((F3.trans Fx (fun _ _ h => h)).trans HF4.out (fun k hk h => by omega)).trans F5 (fun k hk h => by
        rcases HX4.out with h6 | h6
        · have e2 : g9 = g10 := Option.some.inj h6
          omega
        · omega)
      exact sl_18 w0 w5 w0.heap.size N L SZ f h m k v 0 1 true a8 _ _ c8 _ V8 ds HN.out.symm hN20 hL1 hL2 HSZ.out (by omega) (by omega) (by omega) hk1 hv8 rfl hnb (HBF.out w5 FF) (key 0 (by decide) w4 w5 g10 d10 g11 d11 hA5 FF) (HXF.out w5 FF) (HPF.out w5 FF) hd (F02.trans FF (fun _ _ h => h))
    | true =>
      have r1 : Rd (w3.alloc (.cells #[.int .u8 1] 5)) (some ⟨w3.heap.size, 0, none⟩) 1 1 [1] := rd_oneT w3 1 (by decide)
      have Fx : Frm (fun _ => False) w3 (w3.alloc (.cells #[.int .u8 1] 5)) := Frm.of (World.grownBy_alloc w3 _ none) (fun k e _ => by cases e)
      have hAx := hA3'.frm Fx (fun _ _ h => h)
      have hzx : w3.heap.size ≤ (w3.alloc (.cells #[.int .u8 1] 5)).heap.size := Fx.size
      have t1 : True := trivial
      refine wp_seq_k fun K10 hK10 => ?_
      have HK10 : Hid _ := hK10
      clear hK10
      go_wp2_with (first
        | (have _t := t1; clear t1; refine wpList_jnT _ rfl _ _ rfl (some ⟨g9, 0, none⟩) p d9 w0.heap.size ((catF ds).take p) rfl hAx (by omega) (some ⟨w3.heap.size, 0, none⟩) 1 1 [1] rfl r1 (by decide) (by omega) ?_; intro g10 d10 w4 hA4 g4 hx4; have t2 : True := trivial; have F4 : Frm (fun k => k = g9) (w3.alloc (.cells #[.int .u8 1] 5)) w4 := Frm.of g4 (fun k e _ => (Option.some.inj e).symm); have hz4 := F4.size; have rD4 := rd_frm (rd_frm rD3 Fx (fun h => h)) F4 (fun h => by omega); have HF4 : Hid _ := F4; have HX4 : Hid _ := hx4; clear F4 g4 hx4)
        | (have _t := t2; clear t2; refine wpList_jnT _ rfl _ _ rfl (some ⟨g10, 0, none⟩) (p + 1) d10 w0.heap.size ((catF ds).take p ++ [1]) rfl hA4 (by omega) (some ⟨g7, p, none⟩) (n7 - p) (c7 - p) ((catF ds).drop p) rfl rD4 hnd (by omega) ?_; intro g11 d11 w5 hA5 g5 hx5))
      (try simp only [Exit.inBlock, Exit.then])
      refine HK10.out _ _ ?_
      clear HK10
      have F5 : Frm (fun k => k = g10) w4 w5 := Frm.of g5 (fun k e _ => by
        have e2 : g10 = k := Option.some.inj e
        exact e2.symm)
      have FF := ((F3.trans Fx (fun _ _ h => h)).trans HF4.out (fun k hk h => by omega)).trans F5 (fun k hk h => by
        rcases HX4.out with h6 | h6
        · have e2 : g9 = g10 := Option.some.inj h6
          omega
        · omega)
      exact sl_18 w0 w5 w0.heap.size N L SZ f h m k v 1 1 true a8 _ _ c8 _ V8 ds HN.out.symm hN20 hL1 hL2 HSZ.out (by omega) (by omega) (by omega) hk1 hv8 rfl hnb (HBF.out w5 FF) (key 1 (by decide) w4 w5 g10 d10 g11 d11 hA5 FF) (HXF.out w5 FF) (HPF.out w5 FF) hd (F02.trans FF (fun _ _ h => h))
end Go.Proofs.Ythdjpbfknbafgaa
