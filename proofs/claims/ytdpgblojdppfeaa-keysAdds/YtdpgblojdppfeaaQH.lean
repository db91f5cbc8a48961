import Derived.Test.YtdpgblojdppfeaaQG
import Derived.Deep.Upon
namespace Go.Proofs.Ytdpgblojdppfeaa
open Go.RowKit
set_option maxRecDepth 100000
set_option linter.unusedVariables false
set_option linter.unusedSimpArgs false
/-- what Drop answers -/
def drO (R : List Kd) (z : Int) : Bool := decide (fiN R z < R.length)
def drV (R : List Kd) (z : Int) : List Kd := if rmB R = true then (if drO R z = true then R.eraseIdx (fiN R z) else R) else []
def drE (R : List Kd) (z : Int) : Nat := if rmB R = true then (if drO R z = true then 0 else 10) else 11
theorem rmA_at {R : List Kd} {n : Nat} (h : rmA R n = true) : ∀ i, i < n → kdB (R.getD i kd0) = true := by
  induction n with
  | zero => intro i hi; omega
  | succ n ih =>
    intro i hi
    have h : (rmA R n && (kdB (R.getD n kd0) && !hasI R n (R.getD n kd0).id)) = true := h
    rw [Bool.and_eq_true, Bool.and_eq_true] at h
    by_cases e : i = n
    · subst e; exact h.2.1
    · exact ih h.1 i (by omega)
theorem rm_ok {R : List Kd} (h : rmB R = true) : R.length ≤ 8 ∧ ∀ k, k ∈ R → k.W.length = 8 := by
  unfold rmB at h
  rw [Bool.and_eq_true, decide_eq_true_eq] at h
  refine ⟨h.1, fun k hk => ?_⟩
  obtain ⟨i, hi, rfl⟩ := List.mem_iff_getElem.1 hk
  have h2 := rmA_at h.2 i hi
  rw [List.getD_eq_getElem?_getD, List.getElem?_eq_getElem hi] at h2
  have h2 : kdB R[i] = true := h2
  unfold kdB kmB at h2
  simp only [Bool.and_eq_true, beq_iff_eq] at h2
  have h3 := h2.1.1.2
  unfold wdE at h3
  by_cases h8 : R[i].W.length = 8
  · exact h8
  · rw [if_neg h8] at h3; cases h3
theorem map_erase (ks : List Kw) (j : Nat) : (ks.eraseIdx j).map Kw.d = (ks.map Kw.d).eraseIdx j := by
  rw [List.eraseIdx_eq_take_drop_succ, List.eraseIdx_eq_take_drop_succ, List.map_append, List.map_take, List.map_drop]
theorem fiN_le (R : List Kd) (z : Int) : fiN R z ≤ R.length := by
  induction R with
  | nil => exact Nat.le_refl _
  | cons x R ih =>
    show (if x.id = z then 0 else fiN R z + 1) ≤ R.length + 1
    split <;> omega
theorem OwK.someK {w : World} {lo : Nat} {a : Option Addr} {n c : Nat} {ks : List Kw} (h : OwK w lo a n c ks) (hn : 0 < n) : ∃ g, a = some ⟨g, 0, none⟩ := by
  rcases h.own.2 with ⟨h1, h2⟩ | ⟨g, cap', cur, h1, _⟩
  · omega
  · simp only [Value.slice.injEq] at h1; exact ⟨g, h1.1⟩
theorem OwG.far {w w' : World} {lo x : Nat} {a : Option Addr} {n c : Nat} {ks : List Kw} {R : List Kd} (h : OwG w lo a n c ks R) (hg : w.grownBy w' (some x)) (hx : x < lo) : OwG w' lo a n c ks R :=
  ⟨h.o.kept hg (fun y e hy => by have e := Option.some.inj e; subst e; have := (h.o.hi hy).2; omega), h.d⟩
set_option maxHeartbeats 16000000 in
theorem drop_any (a : Option Addr) (n c : Nat) (R : List Kd) (z : Int) (w : World) (h : RdG w a n c R) :
    Calls Try.prog 16 #[.agg #[.slice a n c], .int .i64 z] w fun e w' => ∃ (a' : Option Addr) (n' c' : Nat) (ks' : List Kw), e = .returned (.tuple #[.agg #[.slice a' n' c'], .int .i64 (drE R z : Int)]) ∧ OwG w' w.heap.size a' n' c' ks' (drV R z) ∧ w.grownBy w' none := by
  have hlR := h.len
  have b0 := BxS.new w 24 #[.slice a n c]
  have g0 := World.grownBy_alloc w (.cells #[.slice a n c] 24) none
  generalize hw0 : w.alloc (.cells #[.slice a n c] 24) = w0 at b0 g0
  have hz0 : w0.heap.size = w.heap.size + 1 := by rw [← hw0]; simp
  have b1 := BxS.new w0 24 #[.slice none 0 0]
  have g1 := World.grownBy_alloc w0 (.cells #[.slice none 0 0] 24) none
  generalize hw1 : w0.alloc (.cells #[.slice none 0 0] 24) = w1 at b1 g1
  rw [hz0] at b1
  have sz1 : w.heap.size + 2 ≤ w1.heap.size := by rw [← hw1]; simp [hz0]
  have p0 := b0.keep g1 (by simp)
  have G1 := grown_trans g0 g1
  have x0 : w1.cell? ⟨w.heap.size, 0, none⟩ = some (.slice a n c) := p0.cell 0 (by show 0 < 1; decide)
  have i1 := Try.info_rg1
  have s0 : True := trivial
  have kM := ringMayBe_any a n c R w1 (h.keep G1)
  cases hB : rmB R with
  | false =>
    have e1 : drV R z = [] := by unfold drV; rw [hB]; rfl
    have e2 : drE R z = 11 := by unfold drE; rw [hB]; rfl
    rw [hB] at kM
    rw [e1, e2]
    clear e1 e2
    go_enter Try.func16, Try.ntmps16
    go_wp2_with (first
      | (go_at_call 19; have _t := s0; clear s0; refine kM.mono ?_; rintro e w2 ⟨rfl, y2⟩; have q1 := b1.keep y2 (by simp); clear x0; have s1 : True := trivial)
      | (have _t := s1; clear s1; refine wpList_stX _ rfl _ (.tmp 4) (.tmp 10) rfl (w.heap.size + 1) _ _ rfl rfl q1 i1 rfl (by simp [Value.oneCell']) ?_; intro w9 b9 u9; skip))
    refine bodyPost_ret (results_cell1t rfl _ _ _ ⟨w.heap.size + 1, 0, none⟩ _ (.int .i64 11) rfl (BxS.load (t := 24) b9 Try.underlying24 i1) rfl) rfl ?_
    have GF := grown_far (grown_trans G1 y2) u9 (fun q e => by have e := Option.some.inj e; omega)
    first | exact ⟨none, 0, 0, [], rfl, OwG.nil _ _, GF⟩ | exact ⟨none, 0, 0, rfl, ⟨[], OwG.nil _ _⟩, GF⟩
  | true =>
    obtain ⟨hl8, hw8⟩ := rm_ok hB
    rw [hB] at kM
    have kC := fun wz hz => copyRing_any a n c R wz hz (fun k hk => by rw [hw8 k hk]; decide) (by omega)
    have kF := fun a' c' wz hz => find_any a' n c' R z wz hz
    have HfX : Hid (fiX R z = if fiN R z < R.length then (fiN R z : Int) else -1) := rfl
    cases hO : drO R z with
    | false =>
      have e1 : drV R z = R := by unfold drV; rw [hB, hO]; rfl
      have e2 : drE R z = 10 := by unfold drE; rw [hB, hO]; rfl
      have hfx : fiX R z = -1 := by rw [HfX.out, if_neg (of_decide_eq_false hO)]
      simp only [hfx] at kF
      rw [e1, e2]
      clear e1 e2
      go_enter Try.func16, Try.ntmps16
      go_wp2_with (first
        | (go_at_call 19; have _t := s0; clear s0; refine kM.mono ?_; rintro e w2 ⟨rfl, y2⟩; have q0 := p0.keep y2 (by simp); have q1 := b1.keep y2 (by simp); clear x0; have x0 : w2.cell? ⟨w.heap.size, 0, none⟩ = some (.slice a n c) := q0.cell 0 (by show 0 < 1; decide); have s1 : True := trivial)
        | (go_at_call 20; have _t := s1; clear s1; refine (kC _ (h.keep (grown_trans G1 y2))).mono ?_; rintro e w3 ⟨a3, c3, ks3, rfl, hO3, y3⟩; have q0 := q0.keep y3 (by simp); have q1 := q1.keep y3 (by simp); have sz2 := y2.size; clear x0; have s2 : True := trivial)
        | (have _t := s2; clear s2; refine wpList_stX _ rfl _ (.tmp 2) (.tmp 12) rfl w.heap.size _ _ rfl rfl q0 i1 rfl (by simp [Value.oneCell']) ?_; intro w4 b4 u4; have x0 : w4.cell? ⟨w.heap.size, 0, none⟩ = some (.slice a3 n c3) := b4.cell 0 (by show 0 < 1; decide); have hO4 := hO3.far u4 (by omega); have q14 := q1.keep u4 (fun e => by have e := Option.some.inj e; omega); have s3 : True := trivial)
        | (go_at_call 22; have _t := s3; clear s3; refine (kF _ _ _ hO4.rd).mono ?_; rintro e w5 ⟨rfl, y5⟩; have q15 := q14.keep y5 (by simp); have b45 := b4.keep y5 (by simp); clear x0; have x0 : w5.cell? ⟨w.heap.size, 0, none⟩ = some (.slice a3 n c3) := b45.cell 0 (by show 0 < 1; decide); have s4 : True := trivial)
        | (have _t := s4; clear s4; refine wpList_stX _ rfl _ (.tmp 4) (.tmp 18) rfl (w.heap.size + 1) _ _ rfl rfl q15 i1 rfl (by simp [Value.oneCell']) ?_; intro w9 b9 u9; skip))
      refine bodyPost_ret (results_cell1t rfl _ _ _ ⟨w.heap.size + 1, 0, none⟩ _ (.int .i64 10) rfl (BxS.load (t := 24) b9 Try.underlying24 i1) rfl) rfl ?_
      have hF := (hO4.keep y5).far u9 (by omega)
      have GF := grown_far (grown_trans (grown_far (grown_trans (grown_trans G1 y2) y3) u4 (fun q e => by have e := Option.some.inj e; omega)) y5) u9 (fun q e => by have e := Option.some.inj e; omega)
      first | exact ⟨a3, n, c3, ks3, rfl, hF.wide (by omega), GF⟩ | exact ⟨a3, n, c3, rfl, ⟨ks3, hF.wide (by omega)⟩, GF⟩
    | true =>
      have hfl : fiN R z < R.length := of_decide_eq_true hO
      obtain ⟨j, hj⟩ : ∃ j, fiN R z = j := ⟨_, rfl⟩
      have e1 : drV R z = R.eraseIdx j := by unfold drV; rw [hB, hO, hj]; rfl
      have e2 : drE R z = 0 := by unfold drE; rw [hB, hO]; rfl
      have hfx : fiX R z = (j : Int) := by rw [HfX.out, if_pos hfl, hj]
      simp only [hfx] at kF
      rw [hj] at hfl
      rw [e1, e2]
      have hj0 : ¬ (j : Int) < 0 := by omega
      have hwj : IntKind.i64.wrap ((j : Int) + 1) = (j : Int) + 1 := wrap_i64_in _ (by omega) (by omega)
      clear e1 e2 hj HfX hfx
      go_enter Try.func16, Try.ntmps16
      go_wp2_with (first
        | (go_at_call 19; have _t := s0; clear s0; refine kM.mono ?_; rintro e w2 ⟨rfl, y2⟩; have q0 := p0.keep y2 (by simp); have q1 := b1.keep y2 (by simp); clear x0; have x0 : w2.cell? ⟨w.heap.size, 0, none⟩ = some (.slice a n c) := q0.cell 0 (by show 0 < 1; decide); have s1 : True := trivial)
        | (go_at_call 20; have _t := s1; clear s1; refine (kC _ (h.keep (grown_trans G1 y2))).mono ?_; rintro e w3 ⟨a3, c3, ks3, rfl, hO3, y3⟩; have q0 := q0.keep y3 (by simp); have q1 := q1.keep y3 (by simp); have sz2 := y2.size; clear x0; obtain ⟨g3, rfl⟩ := hO3.o.someK (by omega); have s2 : True := trivial)
        | (have _t := s2; clear s2; refine wpList_stX _ rfl _ (.tmp 2) (.tmp 12) rfl w.heap.size _ _ rfl rfl q0 i1 rfl (by simp [Value.oneCell']) ?_; intro w4 b4 u4; have x0 : w4.cell? ⟨w.heap.size, 0, none⟩ = some (.slice (some ⟨g3, 0, none⟩) n c3) := b4.cell 0 (by show 0 < 1; decide); have hO4 := hO3.far u4 (by omega); have q14 := q1.keep u4 (fun e => by have e := Option.some.inj e; omega); have s3 : True := trivial)
        | (go_at_call 22; have _t := s3; clear s3; refine (kF _ _ _ hO4.rd).mono ?_; rintro e w5 ⟨rfl, y5⟩; have q15 := q14.keep y5 (by simp); have b45 := b4.keep y5 (by simp); clear x0; have x0 : w5.cell? ⟨w.heap.size, 0, none⟩ = some (.slice (some ⟨g3, 0, none⟩) n c3) := b45.cell 0 (by show 0 < 1; decide); have hO5 := hO4.keep y5; have s4 : True := trivial)
        | (go_at_call 27; have _t := s4; clear s4; have hg3 : w2.heap.size ≤ g3 := (hO5.o.hi (.inl rfl)).2; have kD := deleteK_any g3 n c3 _ j (j + 1) ks3 _ hO5.o rfl (by omega) (by omega); rw [show ((j + 1 : Nat) : Int) = (j : Int) + 1 from by omega] at kD; refine kD.mono ?_; rintro e w6 ⟨rfl, hO6, u6⟩; have b46 := b45.keep u6 (fun e => by have e := Option.some.inj e; omega); have q16 := q15.keep u6 (fun e => by have e := Option.some.inj e; omega); clear x0; have s5 : True := trivial)
        | (have _t := s5; clear s5; refine wpList_stC _ rfl _ _ _ rfl w.heap.size 0 24 _ #[.slice (some ⟨g3, 0, none⟩) (n - 1) c3] (.slice (some ⟨g3, 0, none⟩) (n - 1) c3) rfl rfl b46 (stc_keys _ _ _ _ _) (by show 0 < 1; decide) rfl ?_; intro w7 b7 u7; have x0 : w7.cell? ⟨w.heap.size, 0, none⟩ = some (.slice (some ⟨g3, 0, none⟩) (n - 1) c3) := b7.cell 0 (by show 0 < 1; decide); have q17 := q16.keep u7 (fun e => by have e := Option.some.inj e; omega); have s6 : True := trivial)
        | (have _t := s6; clear s6; refine wpList_stX _ rfl _ (.tmp 4) (.tmp 26) rfl (w.heap.size + 1) _ _ rfl rfl q17 i1 rfl (by simp [Value.oneCell']) ?_; intro w9 b9 u9; skip))
      refine bodyPost_ret (results_cell1t rfl _ _ _ ⟨w.heap.size + 1, 0, none⟩ _ (.int .i64 0) rfl (BxS.load (t := 24) b9 Try.underlying24 i1) rfl) rfl ?_
      have hO7 : OwG w6 w2.heap.size (some ⟨g3, 0, none⟩) (n - 1) c3 (ks3.eraseIdx j) (R.eraseIdx j) := ⟨hO6, by rw [map_erase, hO3.d]⟩
      have hF := (hO7.far u7 (by omega)).far u9 (by omega)
      have GF := grown_far (grown_far (grown_far (grown_trans (grown_far (grown_trans (grown_trans G1 y2) y3) u4 (fun q e => by have e := Option.some.inj e; omega)) y5) u6 (fun q e => by have e := Option.some.inj e; omega)) u7 (fun q e => by have e := Option.some.inj e; omega)) u9 (fun q e => by have e := Option.some.inj e; omega)
      first | exact ⟨_, _, _, _, rfl, hF.wide (by omega), GF⟩ | exact ⟨_, _, _, rfl, ⟨_, hF.wide (by omega)⟩, GF⟩
end Go.Proofs.Ytdpgblojdppfeaa
