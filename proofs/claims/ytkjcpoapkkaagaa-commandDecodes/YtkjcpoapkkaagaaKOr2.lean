import Derived.Test.YtkjcpoapkkaagaaKOr1
namespace Go.Proofs.Ytkjcpoapkkaagaa
open Go.RowKit
set_option maxRecDepth 100000
set_option linter.unusedVariables false
set_option linter.unusedSimpArgs false

theorem BxS.loadA {w : World} {g : Nat} {t e : TypeId} {k : Nat} {cs : Array Value} (h : BxS w g t cs) (hu : Try.prog.underlying t = some (.array k e)) (hi : (Try.prog.info? t).map (·.size) = some cs.size) :
    (loadVar t ⟨g, 0, none⟩).run Try.prog w = .ok (.agg cs) w := run_loadVar_row w g t t cs (0, 0) (.array k e) h hu rfl hi
theorem kres_cell1 {fn : Func} {p : Tmp} {ty : TypeId} (h : fn.results = #[.cell p ty]) (tmps : Array Value) (P : Program) (w : World) (a : Addr) (v : Value) (ha : tmps.getD p undef = .pointer (some a)) (hl : (loadVar ty a).run P w = .ok v w) :
    (results fn tmps).run P w = .ok v w := by
  simp only [results, h]
  rw [Array.getD_eq_getD_getElem?] at ha
  simp [Sem.run_bind, Result.andThen]
  rw [ha]
  simp [asAddr, hl]
theorem Try.info_h5 : (Try.prog.info? 83).map (fun i => i.size) = some 5 := by kernel_rfl
/-- five bytes -/
def fvA (x0 x1 x2 x3 x4 : Nat) : Array Value := #[.int .u8 x0, .int .u8 x1, .int .u8 x2, .int .u8 x3, .int .u8 x4]
/-- an order's name: its craft and two bits -/
def naN (cr : Nat) (bp co : Bool) : Nat := bp.toNat * 8192 + co.toNat * 4096 + cr
def hoL (cr : Nat) (bp co : Bool) (all sq : Nat) : List Nat := [naN cr bp co / 256, naN cr bp co % 256, (all - 1) / 256, (all - 1) % 256, sq]
def hoA (cr : Nat) (bp co : Bool) (all sq : Nat) : Array Value := fvA (naN cr bp co / 256) (naN cr bp co % 256) ((all - 1) / 256) ((all - 1) % 256) sq
theorem or_in (h r c : Nat) (hr : r < 4096) (hc : c < 2) : (h * 8192 + r) ||| (c * 4096) = h * 8192 + c * 4096 + r := by
  have e1 : h * 8192 + r = (h * 2 ^ 13) ||| r := (or_nat h r 13 (by omega)).symm
  rw [e1, Nat.or_assoc, Nat.or_comm r, show c * 4096 = c * 2 ^ 12 from rfl, or_nat c r 12 (by omega), or_nat h _ 13 (by omega)]
  omega
set_option maxHeartbeats 4000000 in
theorem khead_any (cr : Nat) (bp co : Bool) (sq all : Nat) (a : Option Addr) (n c : Nat) (w : World) (hcr : cr < 1024) (hsq : sq < 256) (h1 : 1 ≤ all) (h2 : all ≤ 65536) :
    Calls Try.prog 56 #[.agg (orA cr bp co sq a n c), .int .i64 all] w fun e w' => e = .returned (.agg (hoA cr bp co all sq)) ∧ w.grownBy w' none := by
  have b0 := BxS.new w 24 (orA cr bp co sq a n c)
  have g0 := World.grownBy_alloc w (.cells (orA cr bp co sq a n c) 24) none
  unfold orA at b0 g0 ⊢
  generalize hw0 : w.alloc (.cells #[.int .i64 (cr : Int), .bool bp, .bool co, .int .i64 (sq : Int), .slice a n c] 24) = w0 at b0 g0
  have z0 := BxS.new w0 83 #[.int .u8 0, .int .u8 0, .int .u8 0, .int .u8 0, .int .u8 0]
  have g1 := World.grownBy_alloc w0 (.cells #[.int .u8 0, .int .u8 0, .int .u8 0, .int .u8 0, .int .u8 0] 83) none
  generalize hw1 : w0.alloc (.cells #[.int .u8 0, .int .u8 0, .int .u8 0, .int .u8 0, .int .u8 0] 83) = w1 at z0 g1
  have b1 := b0.keep g1 (by simp)
  obtain ⟨c0, c1, c2, c3, c4⟩ := b1.cell5
  have p1 := toNat_le bp
  have p2 := toNat_le co
  have i5 := Try.info_h5
  have hA : bits .or .i64 (bits .or .i64 (cr : Int) ((bp.toNat : Int) * 8192)) ((co.toNat : Int) * 4096) = ((naN cr bp co : Nat) : Int) := by
    rw [show ((bp.toNat : Int) * 8192) = ((bp.toNat * 8192 : Nat) : Int) by omega, show ((co.toNat : Int) * 4096) = ((co.toNat * 4096 : Nat) : Int) by omega, i64_or_n _ _ (by omega) (by omega), Nat.or_comm,
      show bp.toNat * 8192 = bp.toNat * 2 ^ 13 from rfl, or_nat _ _ 13 (by omega), i64_or_n _ _ (by omega) (by omega), or_in _ _ _ (by omega) p2]
    rfl
  have hN : naN cr bp co < 65536 := by unfold naN; omega
  unfold hoA
  generalize naN cr bp co = N at hA hN ⊢
  obtain ⟨m, rfl⟩ : ∃ m, all = m + 1 := ⟨all - 1, by omega⟩
  rw [Nat.add_sub_cancel]
  have hm : ((m + 1 : Nat) : Int) - 1 = (m : Int) := by omega
  have hb0 : IntKind.u8.wrap ((N : Int) / 256) = ((N / 256 : Nat) : Int) := by rw [IntKind.wrap_u8']; omega
  have hb1 : IntKind.u8.wrap (N : Int) = ((N % 256 : Nat) : Int) := by rw [IntKind.wrap_u8']; omega
  have hb2 : IntKind.u8.wrap ((m : Int) / 256) = ((m / 256 : Nat) : Int) := by rw [IntKind.wrap_u8']; omega
  have hb3 : IntKind.u8.wrap (m : Int) = ((m % 256 : Nat) : Int) := by rw [IntKind.wrap_u8']; omega
  unfold fvA
  go_enter Try.func56, Try.ntmps56
  go_wp2
  go_quiet ((go_at_call 61; exact Calls.quiet_of_same (bitIf_any _ _ _)))
  have g2 := grown_drewN w1 nq none
  have b2 := b1.keep g2 (by simp)
  have z2 := z0.keep g2 (by simp)
  generalize w1.drewN nq = w2 at g2 b2 z2 ⊢
  clear c0 c1 c2 c3 c4
  obtain ⟨c0, c1, c2, c3, c4⟩ := b2.cell5
  have t1 : True := trivial
  go_wp2_with (first
    | (have _t := t1; refine wpList_stX _ rfl _ (.tmp 4) (.tmp 32) rfl w0.heap.size _ _ rfl rfl z2 i5 rfl (by simp [Value.oneCell']) ?_; clear t1; intro w9 b9 g9))
  refine bodyPost_ret (kres_cell1 rfl _ _ _ ⟨w0.heap.size, 0, none⟩ _ rfl (BxS.loadA (t := 83) b9 Try.underlying83 Try.info_h5)) rfl ?_
  exact ⟨rfl, grown_far (grown_trans (grown_trans g0 g1) g2) g9 (fun q e => by cases e; exact g0.size)⟩
/-- an order's bytes -/
def orP (cr : Nat) (bp co : Bool) (sq : Nat) (D : List Nat) : List Nat := hoL cr bp co (D.length + 7) sq ++ D
def orL (cr : Nat) (bp co : Bool) (sq : Nat) (D : List Nat) : List Nat := orP cr bp co sq D ++ [sumB (orP cr bp co sq D) / 256, sumB (orP cr bp co sq D) % 256]
theorem sumB_lt (L : List Nat) : sumB L < 65536 := crN_lt _ _
theorem rd_five {w : World} {g : Nat} {t : TypeId} {x0 x1 x2 x3 x4 : Nat} (h : BxS w g t (fvA x0 x1 x2 x3 x4)) (h0 : x0 < 256) (h1 : x1 < 256) (h2 : x2 < 256) (h3 : x3 < 256) (h4 : x4 < 256) : Rd w (some ⟨g, 0, none⟩) 5 5 [x0, x1, x2, x3, x4] := by
  unfold fvA at h
  obtain ⟨c0, c1, c2, c3, c4⟩ := h.cell5
  refine ⟨rfl, Nat.le_refl _, by unfold maxLen; omega, (fun h => by cases h), (fun x hx => by simp at hx; omega), fun _ => ⟨g, 0, rfl, h.lt, fun i hi => ?_⟩⟩
  rw [Nat.zero_add]
  match i, hi with
  | 0, _ => exact c0
  | 1, _ => exact c1
  | 2, _ => exact c2
  | 3, _ => exact c3
  | 4, _ => exact c4
  | i + 5, h => omega
theorem rd_two (w : World) (z0 z1 : Int) (x0 x1 : Nat) (e0 : z0 = x0) (e1 : z1 = x1) (h0 : x0 < 256) (h1 : x1 < 256) : Rd (w.alloc (.cells #[.int .u8 z0, .int .u8 z1] 5)) (some ⟨w.heap.size, 0, none⟩) 2 2 [x0, x1] := by
  subst e0 e1
  have hB : Blk (w.alloc (.cells #[.int .u8 (x0 : Int), .int .u8 (x1 : Int)] 5)) w.heap.size [x0, x1] := heap_alloc_new w _
  exact hB.rd (by intro x hx; simp at hx; omega) rfl (by decide)
/-- 'make([]byte, 0, n)' in a region that draws -/
theorem step_make0 (w : World) {ops : Array Oper} {o : Oper} {a : Act} {K : Act → World → Prop} {Q : Exit → Act → World → Prop} {E : Prop} (hg : o.guard = none) (l c : Operand)
    (hop : o.op = Op.makeSlice 22 l c) (n : Nat) (C : Int) (hl : a.eval l = .int .i64 0) (hc : a.eval c = .int .i64 C) (hC : C = (n : Int)) (hn : n ≤ 140737488355328)
    (hK : ∀ w', Ans w' w.heap.size (some ⟨w.heap.size, 0, none⟩) 0 n [] → w.grownBy w' none → K (a.put o.dst (.slice (some ⟨w.heap.size, 0, none⟩) 0 n)) w') :
    if Region.wanted o (yielded ops a.tmps) = true then Oper.wp Try.prog o a w K Q else E := by
  have hw : Region.wanted o (yielded ops a.tmps) = true := by simp [Region.wanted, hg]
  rw [if_pos hw]
  obtain ⟨i0, hi, hz0, hz1, hz2⟩ := info_parts Try.info_u8
  obtain ⟨w', hrun, r1, r2⟩ := run_make_own (P := Try.prog) w w.heap.size 22 5 i0 (.int .u8 0) 1 Try.underlying22 hi hz0 hz1 .i64 .i64 n (by rw [hz2]; omega) (by unfold maxLen; omega) (Nat.le_refl _)
  subst hC
  unfold Oper.wp
  simp [execOp, hop, hl, hc, hrun, Result.andThen]
  exact hK w' (own_nil w' w.heap.size _ _ r1 (Nat.le_refl _)) r2
set_option maxHeartbeats 8000000 in
theorem obytes_any (cr : Nat) (bp co : Bool) (sq : Nat) (a : Option Addr) (n c : Nat) (D : List Nat) (w : World) (hR : Rd w a n c D) (hcr : cr < 1024) (hsq : sq < 256) (h1 : 1 ≤ n) (h2 : n ≤ 1017) :
    Calls Try.prog 50 #[.agg (orA cr bp co sq a n c)] w fun e w' => ∃ a' c', e = .returned (.slice a' (n + 7) c') ∧ Ans w' w.heap.size a' (n + 7) c' (orL cr bp co sq D) ∧ w.grownBy w' none := by
  have HL : Hid (D.length = n) := hR.len
  have hH := fun wz => khead_any cr bp co sq (n + 7) a n c wz hcr hsq (by omega) (by omega)
  have b0 := BxS.new w 24 (orA cr bp co sq a n c)
  have g0 := World.grownBy_alloc w (.cells (orA cr bp co sq a n c) 24) none
  have p1 := toNat_le bp
  have p2 := toNat_le co
  have hN : naN cr bp co < 65536 := by unfold naN; omega
  have HP : Hid (orP cr bp co sq D = [naN cr bp co / 256, naN cr bp co % 256, (n + 6) / 256, (n + 6) % 256, sq] ++ D) := by show _ = _; unfold orP hoL; rw [HL.out]; rfl
  unfold hoA at hH
  unfold orL
  unfold orA at hH b0 g0 ⊢
  generalize naN cr bp co = N at hH hN HP
  generalize orP cr bp co sq D = P at HP ⊢
  have hS := sumB_lt P
  rw [show n + 7 - 1 = n + 6 from rfl] at hH
  have f0 : N / 256 < 256 := by omega
  have f1 : N % 256 < 256 := by omega
  have f2 : (n + 6) / 256 < 256 := by omega
  have f3 : (n + 6) % 256 < 256 := by omega
  generalize N / 256 = q0 at hH HP f0
  generalize N % 256 = q1 at hH HP f1
  generalize (n + 6) / 256 = q2 at hH HP f2
  generalize (n + 6) % 256 = q3 at hH HP f3
  unfold fvA at hH
  generalize hw0 : w.alloc (.cells #[.int .i64 (cr : Int), .bool bp, .bool co, .int .i64 (sq : Int), .slice a n c] 24) = w0 at b0 g0
  obtain ⟨c0, c1, c2, c3, c4⟩ := b0.cell5
  have hall : (5 : Int) + (n : Int) + 2 = ((n + 7 : Nat) : Int) := by omega
  have t1 : True := trivial
  go_enter Try.func50, Try.ntmps50
  go_wp2_with (first
    | (go_at_call 56; have _t := t1; clear t1; refine (hH _).mono ?_; rintro e w1 ⟨rfl, g1⟩))
  have F1 := BxS.new w1 83 (fvA q0 q1 q2 q3 sq)
  have gA := World.grownBy_alloc w1 (.cells (fvA q0 q1 q2 q3 sq) 83) none
  unfold fvA at F1 gA
  have hR1 := hR.keep (grown_trans (grown_trans g0 g1) gA)
  have b1 := (b0.keep g1 (by simp)).keep gA (by simp)
  have hz2 : w.heap.size ≤ w1.heap.size := (grown_trans g0 g1).size
  generalize w1.alloc (.cells #[.int .u8 (q0 : Int), .int .u8 (q1 : Int), .int .u8 (q2 : Int), .int .u8 (q3 : Int), .int .u8 (sq : Int)] 83) = w2 at F1 gA hR1 b1 ⊢
  have G2 := grown_trans (grown_trans g0 g1) gA
  have F2 := rd_five F1 f0 f1 f2 f3 hsq
  clear c0 c1 c2 c3 c4
  obtain ⟨i0, hi, hz0, hz1, hz2'⟩ := info_parts Try.info_u8
  obtain ⟨w3, hrun, r1, g3⟩ := run_make_own (P := Try.prog) w2.drew w2.heap.size 22 5 i0 (.int .u8 0) 1 Try.underlying22 hi hz0 hz1 .i64 .i64 (n + 7) (by rw [hz2']; omega) (by unfold maxLen; omega) (Nat.le_refl _)
  have hA3 := own_nil w3 w2.heap.size _ _ r1 (Nat.le_refl _)
  rw [show ((n + 7 : Nat) : Int) = (n : Int) + 7 from rfl] at hrun
  have g23 := grown_trans (grown_drew w2 none) g3
  have hM3 : Mine w2 none (some ⟨w2.heap.size, 0, none⟩) 0 (n + 7) := fun g e => .inr (by have e' : w2.heap.size = g := Option.some.inj e; omega)
  have F3 := F2.keep g23
  go_region_law (first
    | (refine step_join w2 w3 rfl (.tmp 16) (.tmp 17) rfl _ 0 _ w2.heap.size none _ rfl hA3 g23 hM3 (Nat.le_refl _) _ 5 _ _ rfl F3 (by decide) (by omega) ?_; intro gx cx w4 hA4 hG4 hM4))
  simp only [Nat.zero_add, List.nil_append] at hA4 hM4
  have b4 := b1.keep hG4 (by simp)
  obtain ⟨c0, c1, c2, c3, c4⟩ := b4.cell5
  have hR4 := hR1.keep hG4
  have t3 : True := trivial
  go_wp2_with (first
    | (at_builtin; have _t := t3; clear t3; refine wpList_join w2 w4 rfl (.tmp 19) (.tmp 21) rfl _ _ _ w2.heap.size none _ rfl hA4 hG4 hM4 (Nat.le_refl _) a n c D rfl hR4 (by omega) (by omega) ?_; intro gy cy w5 hA5 hG5 hM5; rw [← HP.out] at hA5; have t4 : True := trivial)
    | (go_at_call 53; refine (fsum_any _ _ _ P w5 hA5.rd).mono ?_; rintro e wx ⟨rfl, hw⟩; have hw := hw.symm; subst hw; have gB := fun z0 z1 : Int => World.grownBy_alloc w5 (.cells #[.int .u8 z0, .int .u8 z1] 5) none; have t5 : True := trivial)
    | (at_builtin; have _t := t5; clear t5; refine wpList_join w2 _ rfl (.tmp 25) (.tmp 31) rfl _ _ _ w2.heap.size none P rfl (hA5.keep (gB _ _)) (grown_trans hG5 (gB _ _)) hM5 (Nat.le_refl _) _ 2 2 [sumB P / 256, sumB P % 256] rfl (rd_two w5 _ _ _ _ (by omega) (by omega) (by omega) (by omega)) (by decide) (by omega) ?_; intro gz cz w6 hA6 hG6 hM6))
  go_ret
  rw [show 5 + n + 2 = n + 7 by omega] at hA6 ⊢
  exact ⟨_, _, rfl, hA6.wide G2.size, grown_trans G2 hG6⟩
end Go.Proofs.Ytkjcpoapkkaagaa
