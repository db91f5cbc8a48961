import Derived.Test.YtbgbohddkfaacaaCPri
namespace Go.Proofs.Ytbgbohddkfaacaa
open Go.RowKit
set_option maxRecDepth 100000
set_option linter.unusedVariables false
set_option linter.unusedSimpArgs false

/-- what is still to be paid, j steps from the end -/
def vN (p : Nat → Int) (n : Nat) : Nat → Nat → Int
  | 0 => fun _ => 0
  | j + 1 => if j < 6 then nou p (vN p n j) (n + 5 - j) else best p (vN p n j) (n + 5 - j)
theorem vN_lo (p : Nat → Int) (n j : Nat) (h : j < 6) : vN p n (j + 1) = nou p (vN p n j) (n + 5 - j) := by
  show (if j < 6 then _ else _) = _
  rw [if_pos h]
theorem vN_hi (p : Nat → Int) (n j : Nat) (h : ¬ j < 6) : vN p n (j + 1) = best p (vN p n j) (n + 5 - j) := by
  show (if j < 6 then _ else _) = _
  rw [if_neg h]
theorem vN_bd (p : Nat → Int) (hpb : ∀ j, 0 ≤ p j ∧ p j ≤ 14) (n j : Nat) : ∀ s, 0 ≤ vN p n j s ∧ vN p n j s ≤ 28 * j := by
  induction j with
  | zero => intro s; exact ⟨Int.le_refl _, Int.le_refl _⟩
  | succ j ih =>
    intro s
    have h1 := ih (2 * s % 64); have h2 := ih ((2 * s + 1) % 64)
    have h3 := payP_bd p hpb (n + 5 - j) (2 * s); have h4 := payP_bd p hpb (n + 5 - j) (2 * s + 1)
    unfold vN
    split
    · unfold nou; omega
    · unfold best nou oneC; split <;> omega
/-- the choice of each step, as bits -/
def mskP (p : Nat → Int) (n i : Nat) : Nat := maskN (chs p (vN p n (n + 5 - i)) i) 64
theorem mskP_lt (p : Nat → Int) (n i : Nat) : mskP p n i < 18446744073709551616 := maskN_lt _ (chs_lt p _ i) 64
theorem Try.info_u64 : (Try.prog.info? 82).map (fun i => (i.zero, i.size, i.bytes)) = some (some (.int .u64 0), 1, 8) := by kernel_rfl
theorem madeU (n : Nat) : madeCells #[.int .u64 0] (n * 1) = lits64 n fun _ => 0 := by
  apply Array.ext'
  rw [Nat.mul_one, toList_madeCells_one]
  unfold lits64
  apply List.ext_getElem
  · simp
  · intro i h1 h2; simp
/-- 'make([]uint64, n)' -/
theorem wpList_mkU (w : World) {ops : Array Oper} {rest : List Oper} {o : Oper} {a : Act} {Q : Exit → Act → World → Prop} (hg : o.guard = none) (l c : Operand)
    (hop : o.op = Op.makeSlice 81 l c) (n : Nat) (hl : a.eval l = .int .i64 (n : Nat)) (hc : a.eval c = .int .i64 (n : Nat)) (hn : n ≤ 20000)
    (hK : ∀ w', URow w' w.heap.size n (fun _ => 0) → w.grownBy w' none → wpList Try.prog ops Q rest (a.put o.dst (.slice (some ⟨w.heap.size, 0, none⟩) n n)) w') :
    wpList Try.prog ops Q (o :: rest) a w := by
  obtain ⟨i0, hi, hz0, hz1, hz2⟩ := info_parts Try.info_u64
  refine wpList_plain hg fun K hK' => ?_
  have h := run_makeSlice (P := Try.prog) w 81 82 i0 _ Try.underlying81 hi hz0 .i64 .i64 n n (by omega) (by omega) (by rw [hz1]; omega) (by rw [hz2]; omega) (by omega)
  rw [hz1] at h
  simp only [Int.toNat_natCast] at h
  unfold Oper.wp
  simp [execOp, hop, hl, hc, h, Result.andThen]
  refine hK' _ _ (hK _ ?_ (World.grownBy_alloc _ _ _))
  unfold URow
  rw [heap_alloc_new]
  have := madeU n
  rw [← this]
  simp
  rfl
set_option maxHeartbeats 4000000 in
theorem gather_any (n gv gp : Nat) (p : Nat → Int) (hpb : ∀ j, 0 ≤ p j ∧ p j ≤ 14) (w : World) (h : Pri w gv gp (n + 6) p) (hn : n ≤ 16384) :
    Calls Try.prog 43 #[.int .i64 n, .func (.func 57) #[] #[.pointer (some ⟨gv, 0, none⟩)]] w fun e w' =>
      ∃ a' c', e = .returned (.tuple #[.slice a' n c', .int .i64 (vN p n (n + 6) 0)]) ∧ Ans w' w.heap.size a' n c' (folL (mskP p n) n) ∧ w.grownBy w' none := by
  go_enter Try.func43, Try.ntmps43
  go_wp2
  have e1 := World.grownBy_alloc w (.cells (ints 64 fun _ => 0) 79) none
  have r0 := irow_new w 79 64 (fun _ => 0)
  change Code.wp _ _ _ _ (w.alloc (.cells (ints 64 fun _ => 0) 79))
  generalize w.alloc (.cells (ints 64 fun _ => 0) 79) = wb at *
  go_loopw [7] (fun i wr => ∃ (j : Nat) (z : Int), j ≤ 6 ∧ i = .int .i64 z ∧ z = (n : Int) + 5 - j ∧ w.grownBy wr none ∧ IRow wr w.heap.size 79 64 (vN p n j)) (fun i _ => (intOf i + 1 - n).toNat)
  case atStart => exact ⟨0, (n : Int) + 5, by omega, by go_num, by omega, e1, r0⟩
  case round =>
    obtain ⟨j, z, hj, rfl, hz, hgr, hI⟩ := hrel
    by_cases hlt : j < 6
    · obtain ⟨k, rfl⟩ := Int.eq_ofNat_of_zero_le (a := z) (by omega)
      have hk : k = n + 5 - j := by omega
      have hC := ofNoughts_any (vN p n j) k gv gp (n + 6) (by omega) (by omega) p hpb (fun i => by have := vN_bd p hpb n j i; omega) wr (h.keep hgr)
      have HV : Hid (vN p n (j + 1) = fun s => payP p k (2 * s) + vN p n j (2 * s % 64)) := by show _ = _; rw [hk, vN_lo p n j hlt]; rfl
      have HZ : Hid ((k : Int) = (n : Int) + 5 - j) := hz
      have hnk : (n : Int) ≤ (k : Int) := by omega
      have hk5 : (k : Int) ≤ 20000 := by omega
      clear hz hk
      go_wp2_with (first
        | (go_at_call 53; refine hC.mono ?_; rintro e w2 ⟨rfl, g2⟩; have hI2 := hI.keep g2)
        | (refine wpList_ld64 _ rfl (.tmp 6) rfl w.heap.size _ rfl hI ?_)
        | (refine wpList_st64 _ rfl (.tmp 6) (.tmp 21) rfl w.heap.size _ _ rfl rfl hI2 ?_; intro w3 hI3 g3))
      have hG3 := grown_far (grown_trans hgr g2) g3 (fun g e => by cases e; exact Nat.le_refl _)
      rw [← HV.out] at hI3
      go_roundw
      case rel =>
        have e3 := HZ.out
        exact ⟨j + 1, (k : Int) - 1, by omega, by go_num, by omega, hG3, hI3⟩
      case measure =>
        have e3 := HZ.out
        simp [intOf]; omega
    · obtain rfl : j = 6 := by omega
      have hwlt := hI.lt
      have hzn : z < (n : Int) := by omega
      clear hz
      go_wp2_with (at_make; refine wpList_mkU _ rfl _ _ rfl n rfl rfl (by omega) ?_; intro w1 hU1 g1)
      have hI1 := hI.keep g1
      have hG1 := grown_trans hgr g1
      have hgo : w.heap.size < wr.heap.size := hwlt
      generalize wr.heap.size = go at *
      clear hI hgr g1 hwlt
      go_loopw [9] (fun i wx => ∃ (q : Nat) (z : Int), q ≤ n ∧ i = .int .i64 z ∧ z = (n : Int) - 1 - q ∧ w.grownBy wx none ∧ IRow wx w.heap.size 79 64 (vN p n (6 + q)) ∧ URow wx go n (fun i => if n ≤ i + q then mskP p n i else 0)) (fun i _ => (intOf i + 1).toNat)
      case atStart => exact ⟨0, (n : Int) - 1, by omega, by go_num, by omega, hG1, hI1, hU1.congr (fun i hi => by rw [if_neg (by omega)])⟩
      case round =>
        obtain ⟨q, z', hq, rfl, hz, hgx, hIx, hUx⟩ := hrel
        by_cases hlq : q < n
        · obtain ⟨k, rfl⟩ := Int.eq_ofNat_of_zero_le (a := z') (by omega)
          have hk : k = n + 5 - (6 + q) := by omega
          have hC := ofBits_any (vN p n (6 + q)) k gv gp (n + 6) (by omega) (by omega) p hpb (fun i => by have := vN_bd p hpb n (6 + q) i; omega) wr (h.keep hgx)
          have HV : Hid (vN p n (6 + (q + 1)) = best p (vN p n (6 + q)) k) := by show _ = _; rw [hk]; exact vN_hi p n (6 + q) (by omega)
          have HM : Hid (mskP p n k = maskN (chs p (vN p n (6 + q)) k) 64) := by show _ = _; unfold mskP; rw [show n + 5 - k = 6 + q by omega]
          have HZ : Hid ((k : Int) = (n : Int) - 1 - q) := hz
          have hkn : (k : Int) < (n : Int) := by omega
          have hkn' : k < n := by omega
          clear hz hk
          generalize maskN (chs p (vN p n (6 + q)) k) 64 = M at *
          go_wp2_with (first
            | (go_at_call 54; refine hC.mono ?_; rintro e w2 ⟨rfl, g2⟩; have hI2 := hIx.keep g2)
            | (refine wpList_ld64 _ rfl (.tmp 6) rfl w.heap.size _ rfl hIx ?_)
            | (refine wpList_st64 _ rfl (.tmp 6) (.tmp 37) rfl w.heap.size _ _ rfl rfl hI2 ?_; intro w3 hI3 g3; have hU3 := (hUx.keep g2).kept g3 (by simp; omega); have hc3 := hU3.cell k hkn'; have hf3 := hU3.free k; have hS3 := hU3.set k M))
          have hG3 := grown_far (grown_trans hgx g2) g3 (fun g e => by cases e; exact Nat.le_refl _)
          rw [← HV.out] at hI3
          go_roundw
          case rel =>
            have e3 := HZ.out
            refine ⟨q + 1, (k : Int) - 1, by omega, by go_num, by omega, grown_far hG3 (grown_set _ _ _ _) (fun g e => by cases e; omega), hI3.kept (grown_set _ _ _ _) (by first | (simp; done) | (simp; omega)), hS3.congr ?_⟩
            intro i hi
            by_cases e : i = k
            · subst e; rw [if_pos rfl, if_pos (by omega)]; exact HM.out.symm
            · rw [if_neg e]
              by_cases e2 : n ≤ i + q
              · rw [if_pos e2, if_pos (by omega)]
              · rw [if_neg e2, if_neg (by omega)]
          case measure => first | (simp [intOf]; done) | (simp [intOf]; omega)
        · obtain rfl : q = n := by omega
          have hU' : URow wr go q (mskP p q) := hUx.congr (fun i hi => by rw [if_pos (by omega)])
          have hF := fun w' (hg : wr.grownBy w' none) => follow_any go q (mskP p q) w' (hU'.keep hg) (mskP_lt p q) hn
          have c0 := hIx.cell 0 (by decide)
          have hzn' : z' < 0 := by omega
          have HV : Hid (vN p q (6 + q) 0 = vN p q (q + 6) 0) := by show _ = _; rw [Nat.add_comm]
          rw [HV.out] at c0
          clear hz
          go_wp2
          go_region_with (go_at_call 55; refine (hF _ (by repeat (first | exact World.grownBy.refl _ _ | refine grown_trans ?_ (grown_drew _ _) | refine grown_trans ?_ (grown_drewN _ _ _)))).mono ?_; rintro e w2 ⟨a2, c2, rfl, hA2, g2⟩; have c0' := (hIx.keep (grown_trans (grown_drew _ _) g2)).cell 0 (by decide); rw [HV.out] at c0')
          all_goals
            go_wp2
            go_ret2
            exact ⟨a2, c2, rfl, hA2.wide hgx.size, grown_trans hgx (grown_trans (grown_drew _ _) g2)⟩
end Go.Proofs.Ytbgbohddkfaacaa
