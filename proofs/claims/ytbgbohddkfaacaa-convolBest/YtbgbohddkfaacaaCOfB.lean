import Derived.Test.YtbgbohddkfaacaaCOfN
namespace Go.Proofs.Ytbgbohddkfaacaa
open Go.RowKit
set_option maxRecDepth 100000
set_option linter.unusedVariables false
set_option linter.unusedSimpArgs false

/-- what a 0 and what a 1 leads to -/
def nou (p f : Nat → Int) (k s : Nat) : Int := payP p k (2 * s) + f (2 * s % 64)
def oneC (p f : Nat → Int) (k s : Nat) : Int := payP p k (2 * s + 1) + f ((2 * s + 1) % 64)
def best (p f : Nat → Int) (k s : Nat) : Int := if oneC p f k s < nou p f k s then oneC p f k s else nou p f k s
def chs (p f : Nat → Int) (k s : Nat) : Nat := if oneC p f k s < nou p f k s then 1 else 0
def maskN (c : Nat → Nat) : Nat → Nat
  | 0 => 0
  | q + 1 => maskN c q + c q * 2 ^ q
theorem chs_lt (p f : Nat → Int) (k s : Nat) : chs p f k s < 2 := by unfold chs; split <;> decide
theorem maskN_lt (c : Nat → Nat) (hc : ∀ i, c i < 2) (q : Nat) : maskN c q < 2 ^ q := by
  induction q with
  | zero => exact (by decide : 0 < 1)
  | succ q ih =>
    have h1 := hc q
    unfold maskN
    rw [Nat.pow_succ]
    rcases (by omega : c q = 0 ∨ c q = 1) with h | h <;> rw [h] <;> omega
theorem maskN_bit (c : Nat → Nat) (hc : ∀ i, c i < 2) (q s : Nat) (hs : s < q) : maskN c q / 2 ^ s % 2 = c s := by
  induction q with
  | zero => omega
  | succ q ih =>
    unfold maskN
    have h1 := hc q
    have hl := maskN_lt c hc q
    by_cases e : s = q
    · subst e
      rw [Nat.add_mul_div_right _ _ (Nat.two_pow_pos _), Nat.div_eq_of_lt hl]
      omega
    · obtain ⟨d, rfl⟩ : ∃ d, q = s + 1 + d := ⟨q - s - 1, by omega⟩
      rw [show c (s + 1 + d) * 2 ^ (s + 1 + d) = (c (s + 1 + d) * 2 ^ d * 2) * 2 ^ s by rw [Nat.pow_add, Nat.pow_add]; simp [Nat.mul_comm, Nat.mul_left_comm, Nat.mul_assoc], Nat.add_mul_div_right _ _ (Nat.two_pow_pos _), Nat.add_mul_mod_self_right]
      exact ih (by omega)
theorem or_reg1 (s : Nat) (hs : s < 64) : bits .or .i64 ((s : Int) * 2) 1 = ((2 * s + 1 : Nat) : Int) := or_reg s hs 1 (by decide)
theorem or_mask (M q : Nat) (h : M < 2 ^ q) (hq : q < 64) : bits .or .u64 (M : Int) (IntKind.u64.wrap (2 ^ q)) = ((M + 2 ^ q : Nat) : Int) := by
  have hp : 2 ^ q < 18446744073709551616 := by
    have := Nat.pow_lt_pow_right (a := 2) (by decide) hq
    simpa using this
  have e1 : IntKind.u64.wrap (2 ^ q) = ((2 ^ q : Nat) : Int) := by
    have e2 : ((2 : Int) ^ q) = ((2 ^ q : Nat) : Int) := by simp
    rw [e2]
    simp only [IntKind.wrap, IntKind.bits, IntKind.signed]
    simp
    omega
  rw [e1, u64_or_nat M (2 ^ q) (by omega) hp]
  congr 1
  have := Nat.two_pow_add_eq_or_of_lt h 1
  rw [Nat.mul_one] at this
  rw [Nat.or_comm, ← this, Nat.add_comm]
theorem payP_bd (p : Nat → Int) (hpb : ∀ j, 0 ≤ p j ∧ p j ≤ 14) (k r : Nat) : 0 ≤ payP p k r ∧ payP p k r ≤ 28 := by
  have h1 := hpb (k * 4 + sy1 r); have h2 := hpb (k * 4 + 2 + sy2 r); unfold payP; omega
set_option maxHeartbeats 4000000 in
theorem ofBits_any (f : Nat → Int) (k gv gp N : Nat) (hk : k < N) (hN : N ≤ 20000) (p : Nat → Int) (hpb : ∀ j, 0 ≤ p j ∧ p j ≤ 14) (hfb : ∀ i, 0 ≤ f i ∧ f i ≤ 1000000) (w : World) (h : Pri w gv gp N p) :
    Calls Try.prog 54 #[.agg (ints 64 f), .int .i64 k, .func (.func 57) #[] #[.pointer (some ⟨gv, 0, none⟩)]] w fun e w' =>
      e = .returned (.tuple #[.agg (ints 64 (best p f k)), .int .u64 (maskN (chs p f k) 64 : Nat)]) ∧ w.grownBy w' none := by
  go_enter Try.func54, Try.ntmps54
  go_wp2
  have e1 : w.grownBy (((w.alloc (.cells (ints 64 f) 79)).alloc (.cells (ints 64 fun _ => 0) 79)).alloc (.cells (ints 64 fun _ => 0) 79)) none :=
    grown_trans (grown_trans (World.grownBy_alloc _ _ _) (World.grownBy_alloc _ _ _)) (World.grownBy_alloc _ _ _)
  have r0 : IRow (((w.alloc (.cells (ints 64 f) 79)).alloc (.cells (ints 64 fun _ => 0) 79)).alloc (.cells (ints 64 fun _ => 0) 79)) w.heap.size 79 64 f :=
    ((irow_new w _ 64 f).keep (World.grownBy_alloc _ _ _)).keep (World.grownBy_alloc _ _ _)
  have r1 : IRow (((w.alloc (.cells (ints 64 f) 79)).alloc (.cells (ints 64 fun _ => 0) 79)).alloc (.cells (ints 64 fun _ => 0) 79)) (w.heap.size + 1) 79 64 (fun _ => 0) := by
    have := (irow_new (w.alloc (.cells (ints 64 f) 79)) 79 64 (fun _ => 0)).keep (World.grownBy_alloc _ (.cells (ints 64 fun _ => 0) 79) _)
    simpa using this
  have r2 : IRow (((w.alloc (.cells (ints 64 f) 79)).alloc (.cells (ints 64 fun _ => 0) 79)).alloc (.cells (ints 64 fun _ => 0) 79)) (w.heap.size + 2) 79 64 (fun _ => 0) := by
    have := (irow_new ((w.alloc (.cells (ints 64 f) 79)).alloc (.cells (ints 64 fun _ => 0) 79)) 79 64 (fun _ => 0))
    simpa using this
  change Code.wp _ _ _ _ (((w.alloc (.cells (ints 64 f) 79)).alloc (.cells (ints 64 fun _ => 0) 79)).alloc (.cells (ints 64 fun _ => 0) 79))
  generalize (((w.alloc (.cells (ints 64 f) 79)).alloc (.cells (ints 64 fun _ => 0) 79)).alloc (.cells (ints 64 fun _ => 0) 79)) = wb at *
  go_loopw [9, 14] (fun o i wr => ∃ q : Nat, q ≤ 64 ∧ i = .int .i64 q ∧ o = .int .u64 (maskN (chs p f k) q : Nat) ∧ w.grownBy wr none ∧ IRow wr w.heap.size 79 64 f ∧ IRow wr (w.heap.size + 1) 79 64 (fun _ => 0) ∧
    IRow wr (w.heap.size + 2) 79 64 (fun s => if s < q then best p f k s else 0)) (fun _ i _ => 64 - (intOf i).toNat)
  case atStart => exact ⟨0, by omega, rfl, rfl, e1, r0, r1, r2.congr (fun i _ => by rw [if_neg (by omega)])⟩
  case round =>
    obtain ⟨q, hq, rfl, rfl, hgr, h0, h1, h2⟩ := hrel
    by_cases hlt : q < 64
    · have hP := fun w' (hg : wr.grownBy w' none) => pricer_int ((q : Int) * 2) k gv gp N hk hN (2 * q) (by omega) (by omega) p hpb w' (h.keep (grown_trans hgr hg))
      have hP2 := fun w' (hg : w.grownBy w' none) => pricer_any k gv gp N hk hN (2 * q + 1) (by omega) p hpb w' (h.keep hg)
      have c0 := h0.cell (2 * q % 64) (by omega)
      have c1 := h0.cell ((2 * q + 1) % 64) (by omega)
      have c2 := h2.cell q hlt
      have f2 := h2.free q
      have hp1 := payP_bd p hpb k (2 * q)
      have hp2 := payP_bd p hpb k (2 * q + 1)
      have hf1 := hfb (2 * q % 64)
      have hf2 := hfb ((2 * q + 1) % 64)
      have HN : Hid (nou p f k q = payP p k (2 * q) + f (2 * q % 64)) := rfl
      have HO : Hid (oneC p f k q = payP p k (2 * q + 1) + f ((2 * q + 1) % 64)) := rfl
      have hml := maskN_lt (chs p f k) (chs_lt p f k) q
      have HM : Hid (maskN (chs p f k) (q + 1) = maskN (chs p f k) q + chs p f k q * 2 ^ q) := rfl
      have hor := or_reg1 q hlt
      have H0 : Hid (IRow wr w.heap.size 79 64 f) := h0
      have H1 : Hid (IRow wr (w.heap.size + 1) 79 64 (fun _ => 0)) := h1
      have H2 : Hid (IRow wr (w.heap.size + 2) 79 64 (fun s => if s < q then best p f k s else 0)) := h2
      generalize payP p k (2 * q) = x1 at *
      generalize f (2 * q % 64) = x2 at *
      generalize payP p k (2 * q + 1) = y1 at *
      generalize hy2 : f ((2 * q + 1) % 64) = y2 at *
      generalize maskN (chs p f k) q = M at *
      have hi : (q : Int) * 2 % 64 = ((2 * q % 64 : Nat) : Int) := by omega
      have hi2 : 2 * q % 64 < 64 := by omega
      have ho : ((2 * q + 1 : Nat) : Int) % 64 = (((2 * q + 1) % 64 : Nat) : Int) := by omega
      have ho2 : (2 * q + 1) % 64 < 64 := by omega
      have ho5 : (((2 * q + 1 : Nat) : Int)).tmod 64 = (((2 * q + 1) % 64 : Nat) : Int) := by rw [Int.tmod_eq_emod_of_nonneg (by omega)]; exact ho
      have hmk := or_mask M q hml hlt
      clear h1 h0 h2 h hfb hpb
      generalize 2 * q % 64 = j at *
      generalize (2 * q + 1) % 64 = j' at *
      generalize 2 * q + 1 = rg at *
      have hi3 : (j : Int) < 64 := by omega
      have hi5 : ((q : Int) * 2).tmod 64 = (j : Int) := by rw [Int.tmod_eq_emod_of_nonneg (by omega)]; exact hi
      have hi6 : IntKind.i64.wrap (((q : Int) * 2).tmod 64) = (j : Int) := by rw [hi5]; exact wrap_i64_in _ (by omega) (by omega)
      have hi7 : IntKind.i64.wrap (x1 + x2) = x1 + x2 := wrap_i64_in _ (by omega) (by omega)
      have ho3 : (j' : Int) < 64 := by omega
      have ho6 : IntKind.i64.wrap ((rg : Int).tmod 64) = (j' : Int) := by rw [ho5]; exact wrap_i64_in _ (by omega) (by omega)
      have ho7 : IntKind.i64.wrap (y1 + y2) = y1 + y2 := wrap_i64_in _ (by omega) (by omega)
      have hi4 : (q : Int) < 64 := by omega
      go_wp2
      go_region_with (go_at_call 57; refine (hP _ (by repeat (first | exact World.grownBy.refl _ _ | refine grown_trans ?_ (grown_drew _ _) | refine grown_trans ?_ (grown_drewN _ _ _)))).mono ?_; rintro e w' ⟨rfl, m, rfl⟩)
      all_goals
        have g1 := grown_drewN wr (1 + m) none
        have hsz := hgr.size
        have gB := grown_far (grown_trans hgr g1) (grown_set (wr.drewN (1 + m)) (w.heap.size + 2) q (.int .i64 (x1 + x2))) (fun g e => by cases e; omega)
        have K0 := (H0.out.keep g1).kept (grown_set (wr.drewN (1 + m)) (w.heap.size + 2) q (.int .i64 (x1 + x2))) (by simp)
        have K1 := (H1.out.keep g1).kept (grown_set (wr.drewN (1 + m)) (w.heap.size + 2) q (.int .i64 (x1 + x2))) (by simp)
        have K2 := (H2.out.keep g1).set q (x1 + x2)
        have d1 := K0.cell j' ho2
        have d2 := K2.cell q hlt
        have d3 := K2.free q
        rw [if_pos rfl] at d2
        rw [hy2] at d1
        change Exit.then _ _ _ _ ((wr.drewN (1 + m)).setCell ⟨w.heap.size + 2, q, none⟩ (.int .i64 (x1 + x2)))
        generalize (wr.drewN (1 + m)).setCell ⟨w.heap.size + 2, q, none⟩ (.int .i64 (x1 + x2)) = wc at *
        clear hP c0 c1 c2 f2 g1
        by_cases hc : y1 + y2 < x1 + x2
        · have HB : Hid (best p f k q = y1 + y2) := by show _ = _; unfold best; rw [HN.out, HO.out, if_pos hc]
          have HX : Hid (chs p f k q = 1) := by show _ = _; unfold chs; rw [HN.out, HO.out, if_pos hc]
          go_wp2
          go_quiet (first | (go_at_call 57; refine Calls.quiet_of (hP2 _ (by repeat (first | exact gB | refine grown_trans ?_ (grown_drew _ _) | refine grown_trans ?_ (grown_drewN _ _ _))))))
          go_wp2
          go_roundw
          case rel =>
            have g1 := grown_drewN wc nq none
            have hsz2 := gB.size
            refine ⟨q + 1, by omega, by go_num, congrArg (Value.int .u64) (by rw [HM.out, HX.out, Nat.one_mul]; simp), grown_far (grown_trans gB g1) (grown_set _ _ _ _) (fun g e => by cases e; omega), (K0.keep g1).kept (grown_set _ _ _ _) (by simp; omega), (K1.keep g1).kept (grown_set _ _ _ _) (by simp), ((K2.keep g1).set q _).congr ?_⟩
            intro i hi
            by_cases e : i = q
            · subst e; rw [if_pos rfl, if_pos (by omega)]; exact HB.out.symm
            · rw [if_neg e, if_neg e]
              by_cases e2 : i < q
              · rw [if_pos e2, if_pos (by omega)]
              · rw [if_neg e2, if_neg (by omega)]
          case measure => simp [intOf]; omega
        · have HB : Hid (best p f k q = x1 + x2) := by show _ = _; unfold best; rw [HN.out, HO.out, if_neg hc]
          have HX : Hid (chs p f k q = 0) := by show _ = _; unfold chs; rw [HN.out, HO.out, if_neg hc]
          go_wp2
          go_quiet (first | (go_at_call 57; refine Calls.quiet_of (hP2 _ (by repeat (first | exact gB | refine grown_trans ?_ (grown_drew _ _) | refine grown_trans ?_ (grown_drewN _ _ _))))))
          go_wp2
          go_roundw
          case rel =>
            have g1 := grown_drewN wc nq none
            refine ⟨q + 1, by omega, by go_num, congrArg (Value.int .u64) (by rw [HM.out, HX.out, Nat.zero_mul, Nat.add_zero]), grown_trans gB g1, K0.keep g1, K1.keep g1, (K2.keep g1).congr ?_⟩
            intro i hi
            by_cases e : i = q
            · subst e; rw [if_pos rfl, if_pos (by omega)]; exact HB.out.symm
            · rw [if_neg e]
              by_cases e2 : i < q
              · rw [if_pos e2, if_pos (by omega)]
              · rw [if_neg e2, if_neg (by omega)]
          case measure => simp [intOf]; omega
    · obtain rfl : q = 64 := by omega
      have h2' : IRow wr (w.heap.size + 2) 79 64 (best p f k) := h2.congr (fun i hi => by rw [if_pos hi])
      clear h2 h0
      go_wp2_with (first
        | (refine wpList_ld64 _ rfl (.tmp 8) rfl (w.heap.size + 2) _ rfl h2' ?_)
        | (refine wpList_st64 _ rfl (.tmp 6) (.tmp 55) rfl (w.heap.size + 1) _ _ rfl rfl h1 ?_; intro w2 hR2 g2))
      have hsz := hgr.size
      refine bodyPost_ret (results_cell2 Try.results54 _ _ _ ⟨w.heap.size + 1, 0, none⟩ _ _ rfl (run_lv64 w2 _ _ hR2) rfl) rfl ⟨rfl, grown_far hgr g2 (fun g e => by cases e; omega)⟩
end Go.Proofs.Ytbgbohddkfaacaa
