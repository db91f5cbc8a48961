import Derived.Test.YtkjcpoapkkaagaaKAc3
import Derived.Test.YtkjcpoapkkaagaaKGt2
import Derived.Test.YtkjcpoapkkaagaaNUn2
namespace Go.Proofs.Ytkjcpoapkkaagaa
open Go.RowKit
set_option maxRecDepth 100000
set_option linter.unusedVariables false
set_option linter.unusedSimpArgs false

theorem str_nought (D : List Nat) (hB : IsB D) : ((strB D).toList == (ByteArray.mk #[0]).toList) = decide (D.length = 1 ∧ nth D 0 = 0) := by
  unfold strB strOfNums
  rw [ByteArray.toList_eq, ByteArray.toList_eq]
  match D with
  | [] => rfl
  | [x] =>
    have hx : x < 256 := hB x (by simp)
    by_cases e : x = 0
    · subst e; rfl
    · have h1 : UInt8.ofNat x ≠ 0 := fun h => by
        have h2 := congrArg UInt8.toNat h
        rw [UInt8.toNat_ofNat'] at h2
        have h3 : x % 256 = 0 := h2
        omega
      rw [decide_eq_false (by rintro ⟨_, h⟩; exact e h)]
      simp [h1]
  | x :: y :: r => simp
set_option maxHeartbeats 64000000 in
theorem raccept_any (g : Gt) (cr : Int) (bp co : Bool) (sq : Int) (a : Option Addr) (n c : Nat) (D : List Nat) (room : Bool) (w : World) (hR : Rd w a n c D) :
    Calls Try.prog 28 #[.agg g.A, .agg (orA cr bp co sq a n c), .bool room] w fun e w' => e = .returned (.tuple #[.agg (g.acc cr bp co sq D room).1.A, .bool (g.acc cr bp co sq D room).2.1, .int .i64 ((g.acc cr bp co sq D room).2.2 : Nat)]) ∧ w.grownBy w' none := by
  have HL : Hid (D.length = n) := hR.len
  have hM := fun wz => rgmay_any g.cr g.nx g.ha g.sh g.wa g.ag g.ct wz
  have hW := fun wz => rorder_any cr bp co sq a n c wz
  unfold Gt.acc
  rw [HL.out]
  have hok := @orE_ok cr bp co sq n
  have hgo := @gmay_ok g
  have hM : ∀ wz : World, Calls Try.prog 60 #[.agg (gtA g.cr g.nx g.ha g.sh g.wa g.ag g.ct)] wz fun e w' => e = .returned (.bool g.may) ∧ wz.grownBy w' none := hM
  obtain ⟨gr, nx, ha, sh, wa, ag, ct⟩ := g
  generalize orE cr bp co sq n = E at hW hok ⊢
  generalize Gt.may ⟨gr, nx, ha, sh, wa, ag, ct⟩ = M at hM hgo ⊢
  simp only [Gt.A]
  have bG := BxS.new w 38 (gtA gr nx ha sh wa ag ct)
  have g0 := World.grownBy_alloc w (.cells (gtA gr nx ha sh wa ag ct) 38) none
  unfold gtA at bG g0
  generalize hw0 : w.alloc (.cells #[.int .i64 gr, .int .i64 nx, .int .i64 ha, .bool sh, .bool wa, .bool ag, .int .i64 ct] 38) = w0 at bG g0
  have bO := BxS.new w0 24 (orA cr bp co sq a n c)
  have g1 := World.grownBy_alloc w0 (.cells (orA cr bp co sq a n c) 24) none
  unfold orA at bO g1
  generalize hw1 : w0.alloc (.cells #[.int .i64 cr, .bool bp, .bool co, .int .i64 sq, .slice a n c] 24) = w1 at bO g1
  have bZ := BxS.new w1 38 #[.int .i64 0, .int .i64 0, .int .i64 0, .bool false, .bool false, .bool false, .int .i64 0]
  have g2 := World.grownBy_alloc w1 (.cells #[.int .i64 0, .int .i64 0, .int .i64 0, .bool false, .bool false, .bool false, .int .i64 0] 38) none
  generalize hw2 : w1.alloc (.cells #[.int .i64 0, .int .i64 0, .int .i64 0, .bool false, .bool false, .bool false, .int .i64 0] 38) = w2 at bZ g2
  have z1 := bG.lt
  have z2 := bO.lt
  have z3 := bZ.lt
  have BG := (bG.keep g1 (by simp)).keep g2 (by simp)
  have BO := bO.keep g2 (by simp)
  have G := grown_trans (grown_trans g0 g1) g2
  have hs1 := g0.size
  have hs2 := g1.size
  have hs3 := g2.size
  have hR2 := hR.keep G
  have i7 := Try.info_gt
  obtain ⟨c0, c1, c2, c3, c4, c5, c6⟩ := BG.cell7
  obtain ⟨d0, d1, d2, d3, d4⟩ := BO.cell5
  have t1 : True := trivial
  have t2 : True := trivial
  unfold gtA at hM ⊢
  unfold orA at hW ⊢
  cases M
  case false =>
    rw [if_neg (by decide)]
    unfold gt0
    go_enter Try.func28, Try.ntmps28
    go_wp2_with (first
      | (go_at_call 60; have _t := t1; clear t1; refine (hM _).mono ?_; rintro e w3 ⟨rfl, g3⟩; have bZ3 := bZ.keep g3 (by simp))
      | (have _t := t2; refine wpList_stX _ rfl _ (.tmp 6) (.tmp 16) rfl w1.heap.size _ _ rfl rfl bZ3 i7 rfl (by simp [Value.oneCell']) ?_; clear t2; intro w9 b9 g9))
    refine bodyPost_ret (results_cell3 rfl _ _ _ ⟨w1.heap.size, 0, none⟩ _ (.bool false) (.int .i64 11) rfl (BxS.load (t := 38) b9 Try.underlying38 Try.info_gt) rfl rfl) rfl ?_
    exact ⟨rfl, grown_far (grown_trans G g3) g9 (fun q e => by cases e; omega)⟩
  rw [if_pos rfl]
  by_cases hE : E = 0
  case neg =>
    rw [if_neg hE]
    have hne : (((E : Int) != 0) : Bool) = true := by simp; omega
    clear hok hE hgo
    go_enter Try.func28, Try.ntmps28
    go_wp2_with (first
      | (go_at_call 60; have _t := t1; clear t1; refine (hM _).mono ?_; rintro e w3 ⟨rfl, g3⟩; clear c0 c1 c2 c3 c4 c5 c6 d0 d1 d2 d3 d4; obtain ⟨d0, d1, d2, d3, d4⟩ := (BO.keep g3 (by simp)).cell5)
      | (go_at_call 46; refine (hW _).mono ?_; rintro e w4 ⟨rfl, g4⟩; clear d0 d1 d2 d3 d4; have g34 := grown_trans g3 g4; obtain ⟨d0, d1, d2, d3, d4⟩ := (BO.keep g34 (by simp)).cell5; have hR4 := hR2.keep g34; have B0 := BG.keep g34 (by simp); obtain ⟨c0, c1, c2, c3, c4, c5, c6⟩ := B0.cell7; have gU : w4.grownBy w4 (some w.heap.size) := (World.grownBy.refl _ _); have bZ4 := (bZ.keep g34 (by simp)).keep gU (by simp; omega))
      | (have _t := t2; refine wpList_stX _ rfl _ (.tmp 6) (.tmp 21) rfl w1.heap.size _ _ rfl rfl bZ4 i7 rfl (by simp [Value.oneCell']) ?_; clear t2; intro w9 b9 g9))
    refine bodyPost_ret (results_cell3 rfl _ _ _ ⟨w1.heap.size, 0, none⟩ _ (.bool false) (.int .i64 (E : Int)) rfl (BxS.load (t := 38) b9 Try.underlying38 Try.info_gt) rfl rfl) rfl ?_
    exact ⟨rfl, grown_far (grown_far (grown_trans G g34) gU (fun q e => by cases e; exact Nat.le_refl _)) g9 (fun q e => by cases e; omega)⟩
  rw [if_pos hE]
  subst hE
  obtain ⟨_, ⟨s1, s2⟩, _, n1, n2⟩ := hok rfl
  obtain ⟨⟨q1, q2⟩, ⟨m1, m2⟩, ⟨a1, a2⟩, ⟨k1, k2⟩⟩ := hgo rfl
  clear hok hgo
  simp only at q1 q2 m1 m2 a1 a2 k1 k2
  by_cases hC : cr = gr
  case neg =>
    rw [if_neg hC]
    have hne : ((cr != gr) : Bool) = true := by simp; omega
    clear hC
    go_enter Try.func28, Try.ntmps28
    go_wp2_with (first
      | (go_at_call 60; have _t := t1; clear t1; refine (hM _).mono ?_; rintro e w3 ⟨rfl, g3⟩; clear c0 c1 c2 c3 c4 c5 c6 d0 d1 d2 d3 d4; obtain ⟨d0, d1, d2, d3, d4⟩ := (BO.keep g3 (by simp)).cell5)
      | (go_at_call 46; refine (hW _).mono ?_; rintro e w4 ⟨rfl, g4⟩; clear d0 d1 d2 d3 d4; have g34 := grown_trans g3 g4; obtain ⟨d0, d1, d2, d3, d4⟩ := (BO.keep g34 (by simp)).cell5; have hR4 := hR2.keep g34; have B0 := BG.keep g34 (by simp); obtain ⟨c0, c1, c2, c3, c4, c5, c6⟩ := B0.cell7; have gU : w4.grownBy w4 (some w.heap.size) := (World.grownBy.refl _ _); have bZ4 := (bZ.keep g34 (by simp)).keep gU (by simp; omega))
      | (have _t := t2; refine wpList_stX _ rfl _ (.tmp 6) (.tmp 28) rfl w1.heap.size _ _ rfl rfl bZ4 i7 rfl (by simp [Value.oneCell']) ?_; clear t2; intro w9 b9 g9))
    refine bodyPost_ret (results_cell3 rfl _ _ _ ⟨w1.heap.size, 0, none⟩ _ (.bool false) (.int .i64 10) rfl (BxS.load (t := 38) b9 Try.underlying38 Try.info_gt) rfl rfl) rfl ?_
    exact ⟨rfl, grown_far (grown_far (grown_trans G g34) gU (fun q e => by cases e; exact Nat.le_refl _)) g9 (fun q e => by cases e; omega)⟩
  rw [if_pos hC]
  subst hC
  clear q1 q2
  unfold Gt.tak Gt.oby Gt.que Gt.cnt
  simp only
  rw [HL.out]
  obtain ⟨y, hy⟩ : ∃ y, y = (ct + 1) % 4 := ⟨_, rfl⟩
  have hm1 : (ct + 1) % 4 = y := hy.symm
  have hm2 : (ct + 1).tmod 4 = y := by rw [Int.tmod_eq_emod_of_nonneg (by omega)]; exact hm1
  have hy0 : 0 ≤ y ∧ y < 4 := by omega
  rw [hm1]
  clear hy
  cases co
  case true =>
    rw [if_pos rfl]
    have hSr := str_nought D hR.byte
    rw [HL.out] at hSr
    have hcv : Hid (∀ wz, Rd wz a n c D → (convert 22 9 (.slice a n c)).run Try.prog wz = .ok (.string (strB D)) wz) := fun wz hz => str_any wz a n c D hz
    generalize strB D = st at hcv hSr
    have hT0 : (ByteArray.mk #[0]).toList = [0] := by rw [ByteArray.toList_eq]
    rw [hT0] at hSr
    by_cases e1 : n = 1
    · subst e1
      have l3 : (((1 : Nat) : Int) == 3) = false := rfl
      by_cases hx : nth D 0 = 0
      · have hS : Hid ((st.toList == [0]) = true) := hSr.trans (decide_eq_true ⟨rfl, hx⟩)
        clear hSr
        rw [if_pos ⟨rfl, hx⟩]
        clear hx
        clear t2
        go_enter Try.func28, Try.ntmps28
        go_wp2_with (first
          | (go_at_call 60; have _t := t1; clear t1; refine (hM _).mono ?_; rintro e w3 ⟨rfl, g3⟩; clear c0 c1 c2 c3 c4 c5 c6 d0 d1 d2 d3 d4; obtain ⟨d0, d1, d2, d3, d4⟩ := (BO.keep g3 (by simp)).cell5)
          | (go_at_call 46; refine (hW _).mono ?_; rintro e w4 ⟨rfl, g4⟩; clear d0 d1 d2 d3 d4; have g34 := grown_trans g3 g4; obtain ⟨d0, d1, d2, d3, d4⟩ := (BO.keep g34 (by simp)).cell5; have hR4 := hR2.keep g34; have hcv4 := hcv.out _ hR4; have hS4 := hS.out; clear hcv hS; have B0 := BG.keep g34 (by simp); obtain ⟨c0, c1, c2, c3, c4, c5, c6⟩ := B0.cell7; have s0 : True := trivial)
          | (have _t := s0; refine wpList_stC _ rfl _ _ _ rfl w.heap.size 3 38 #[.int .i64 cr, .int .i64 nx, .int .i64 ha, .bool sh, .bool wa, .bool ag, .int .i64 ct] #[.int .i64 cr, .int .i64 nx, .int .i64 ha, .bool false, .bool wa, .bool ag, .int .i64 ct] (.bool false) rfl rfl B0 (stc_bool _ _ _) (by simp) rfl ?_; clear s0; intro v1 B1 gS1; clear c0 c1 c2 c3 c4 c5 c6; obtain ⟨c0, c1, c2, c3, c4, c5, c6⟩ := B1.cell7; have U1 := gS1; have s1 : True := trivial)
          | (have _t := s1; refine wpList_stC _ rfl _ _ _ rfl w.heap.size 4 38 #[.int .i64 cr, .int .i64 nx, .int .i64 ha, .bool false, .bool wa, .bool ag, .int .i64 ct] #[.int .i64 cr, .int .i64 nx, .int .i64 ha, .bool false, .bool false, .bool ag, .int .i64 ct] (.bool false) rfl rfl B1 (stc_bool _ _ _) (by simp) rfl ?_; clear s1; intro v2 B2 gS2; clear c0 c1 c2 c3 c4 c5 c6; obtain ⟨c0, c1, c2, c3, c4, c5, c6⟩ := B2.cell7; have U2 := grown_trans U1 gS2; have s2 : True := trivial)
          | (have _t := s2; refine wpList_stC _ rfl _ _ _ rfl w.heap.size 5 38 #[.int .i64 cr, .int .i64 nx, .int .i64 ha, .bool false, .bool false, .bool ag, .int .i64 ct] #[.int .i64 cr, .int .i64 nx, .int .i64 ha, .bool false, .bool false, .bool false, .int .i64 ct] (.bool false) rfl rfl B2 (stc_bool _ _ _) (by simp) rfl ?_; clear s2; intro v3 B3 gS3; clear c0 c1 c2 c3 c4 c5 c6; obtain ⟨c0, c1, c2, c3, c4, c5, c6⟩ := B3.cell7; have U3 := grown_trans U2 gS3; have s3 : True := trivial)
          | (have _t := s3; refine wpList_stC _ rfl _ _ _ rfl w.heap.size 6 38 #[.int .i64 cr, .int .i64 nx, .int .i64 ha, .bool false, .bool false, .bool false, .int .i64 ct] #[.int .i64 cr, .int .i64 nx, .int .i64 ha, .bool false, .bool false, .bool false, .int .i64 y] (.int .i64 y) rfl rfl B3 (stc_int _ _ _) (by simp) rfl ?_; clear s3; intro v4 B4 gS4; clear c0 c1 c2 c3 c4 c5 c6; obtain ⟨c0, c1, c2, c3, c4, c5, c6⟩ := B4.cell7; have U4 := grown_trans U3 gS4; have bZ4 := (bZ.keep g34 (by simp)).keep U4 (by simp; omega); have t2 : True := trivial; have s4 : True := trivial)
          | (have _t := t2; refine wpList_stX _ rfl _ (.tmp 6) (.tmp 80) rfl w1.heap.size _ _ rfl rfl bZ4 i7 rfl (by simp [Value.oneCell']) ?_; clear t2; intro w9 b9 g9))
        refine bodyPost_ret (results_cell3 rfl _ _ _ ⟨w1.heap.size, 0, none⟩ _ (.bool false) (.int .i64 0) rfl (BxS.load (t := 38) b9 Try.underlying38 Try.info_gt) rfl rfl) rfl ?_
        exact ⟨rfl, grown_far (grown_far (grown_trans G g34) U4 (fun q e => by cases e; exact Nat.le_refl _)) g9 (fun q e => by cases e; omega)⟩
      · have hS : Hid ((st.toList == [0]) = false) := hSr.trans (decide_eq_false (fun h => hx h.2))
        clear hSr
        rw [if_neg (fun h => hx h.2), if_neg (fun h => by omega)]
        clear hx
        go_enter Try.func28, Try.ntmps28
        go_wp2_with (first
          | (go_at_call 60; have _t := t1; clear t1; refine (hM _).mono ?_; rintro e w3 ⟨rfl, g3⟩; clear c0 c1 c2 c3 c4 c5 c6 d0 d1 d2 d3 d4; obtain ⟨d0, d1, d2, d3, d4⟩ := (BO.keep g3 (by simp)).cell5)
          | (go_at_call 46; refine (hW _).mono ?_; rintro e w4 ⟨rfl, g4⟩; clear d0 d1 d2 d3 d4; have g34 := grown_trans g3 g4; obtain ⟨d0, d1, d2, d3, d4⟩ := (BO.keep g34 (by simp)).cell5; have hR4 := hR2.keep g34; have hcv4 := hcv.out _ hR4; have hS4 := hS.out; clear hcv hS; have B0 := BG.keep g34 (by simp); obtain ⟨c0, c1, c2, c3, c4, c5, c6⟩ := B0.cell7; have gU : w4.grownBy w4 (some w.heap.size) := (World.grownBy.refl _ _); have bZ4 := (bZ.keep g34 (by simp)).keep gU (by simp; omega))
          | (have _t := t2; refine wpList_stX _ rfl _ (.tmp 6) (.tmp 59) rfl w1.heap.size _ _ rfl rfl bZ4 i7 rfl (by simp [Value.oneCell']) ?_; clear t2; intro w9 b9 g9))
        refine bodyPost_ret (results_cell3 rfl _ _ _ ⟨w1.heap.size, 0, none⟩ _ (.bool false) (.int .i64 8) rfl (BxS.load (t := 38) b9 Try.underlying38 Try.info_gt) rfl rfl) rfl ?_
        exact ⟨rfl, grown_far (grown_far (grown_trans G g34) gU (fun q e => by cases e; exact Nat.le_refl _)) g9 (fun q e => by cases e; omega)⟩
    rw [if_neg (fun h => e1 h.1)]
    have hS : Hid ((st.toList == [0]) = false) := hSr.trans (decide_eq_false (fun h => e1 h.1))
    clear hSr
    by_cases e3 : n = 3
    case neg =>
      rw [if_neg (fun h => e3 h.1)]
      have l3 : (((n : Int) == 3) : Bool) = false := by simp; omega
      go_enter Try.func28, Try.ntmps28
      go_wp2_with (first
        | (go_at_call 60; have _t := t1; clear t1; refine (hM _).mono ?_; rintro e w3 ⟨rfl, g3⟩; clear c0 c1 c2 c3 c4 c5 c6 d0 d1 d2 d3 d4; obtain ⟨d0, d1, d2, d3, d4⟩ := (BO.keep g3 (by simp)).cell5)
        | (go_at_call 46; refine (hW _).mono ?_; rintro e w4 ⟨rfl, g4⟩; clear d0 d1 d2 d3 d4; have g34 := grown_trans g3 g4; obtain ⟨d0, d1, d2, d3, d4⟩ := (BO.keep g34 (by simp)).cell5; have hR4 := hR2.keep g34; have hcv4 := hcv.out _ hR4; have hS4 := hS.out; clear hcv hS; have B0 := BG.keep g34 (by simp); obtain ⟨c0, c1, c2, c3, c4, c5, c6⟩ := B0.cell7; have gU : w4.grownBy w4 (some w.heap.size) := (World.grownBy.refl _ _); have bZ4 := (bZ.keep g34 (by simp)).keep gU (by simp; omega))
        | (have _t := t2; refine wpList_stX _ rfl _ (.tmp 6) (.tmp 59) rfl w1.heap.size _ _ rfl rfl bZ4 i7 rfl (by simp [Value.oneCell']) ?_; clear t2; intro w9 b9 g9))
      refine bodyPost_ret (results_cell3 rfl _ _ _ ⟨w1.heap.size, 0, none⟩ _ (.bool false) (.int .i64 8) rfl (BxS.load (t := 38) b9 Try.underlying38 Try.info_gt) rfl rfl) rfl ?_
      exact ⟨rfl, grown_far (grown_far (grown_trans G g34) gU (fun q e => by cases e; exact Nat.le_refl _)) g9 (fun q e => by cases e; omega)⟩
    subst e3
    obtain ⟨bd, off, rfl, hbw, hcc⟩ := hR2.at' (by omega)
    have b2 := hR.byte.nth 2
    have X : ∀ wz : World, w2.grownBy wz none → wz.cell? ⟨bd, off, none⟩ = some (.int .u8 (nth D 0 : Nat)) ∧ wz.cell? ⟨bd, off + 1, none⟩ = some (.int .u8 (nth D 1 : Nat)) ∧ wz.cell? ⟨bd, off + 2, none⟩ = some (.int .u8 (nth D 2 : Nat)) := fun wz hz => ⟨cell_grown (hcc 0 (by omega)) hz hbw (by simp), cell_grown (hcc 1 (by omega)) hz hbw (by simp), cell_grown (hcc 2 (by omega)) hz hbw (by simp)⟩
    clear hcc
    by_cases hx : nth D 0 = 130
    case neg =>
      rw [if_neg (fun h => hx h.2.1)]
      have l0 : (((nth D 0 : Nat) : Int) == 130) = false := by simp; omega
      clear hx
      go_enter Try.func28, Try.ntmps28
      go_wp2_with (first
        | (go_at_call 60; have _t := t1; clear t1; refine (hM _).mono ?_; rintro e w3 ⟨rfl, g3⟩; clear c0 c1 c2 c3 c4 c5 c6 d0 d1 d2 d3 d4; obtain ⟨d0, d1, d2, d3, d4⟩ := (BO.keep g3 (by simp)).cell5)
        | (go_at_call 46; refine (hW _).mono ?_; rintro e w4 ⟨rfl, g4⟩; clear d0 d1 d2 d3 d4; have g34 := grown_trans g3 g4; obtain ⟨d0, d1, d2, d3, d4⟩ := (BO.keep g34 (by simp)).cell5; have hR4 := hR2.keep g34; have hcv4 := hcv.out _ hR4; have hS4 := hS.out; clear hcv hS; obtain ⟨x0, x1, x2⟩ := X _ g34; clear X; have B0 := BG.keep g34 (by simp); obtain ⟨c0, c1, c2, c3, c4, c5, c6⟩ := B0.cell7; have gU : w4.grownBy w4 (some w.heap.size) := (World.grownBy.refl _ _); have bZ4 := (bZ.keep g34 (by simp)).keep gU (by simp; omega))
        | (have _t := t2; refine wpList_stX _ rfl _ (.tmp 6) (.tmp 59) rfl w1.heap.size _ _ rfl rfl bZ4 i7 rfl (by simp [Value.oneCell']) ?_; clear t2; intro w9 b9 g9))
      refine bodyPost_ret (results_cell3 rfl _ _ _ ⟨w1.heap.size, 0, none⟩ _ (.bool false) (.int .i64 8) rfl (BxS.load (t := 38) b9 Try.underlying38 Try.info_gt) rfl rfl) rfl ?_
      exact ⟨rfl, grown_far (grown_far (grown_trans G g34) gU (fun q e => by cases e; exact Nat.le_refl _)) g9 (fun q e => by cases e; omega)⟩
    rw [hx] at X ⊢
    clear hx
    by_cases hx : nth D 1 = 0
    case neg =>
      rw [if_neg (fun h => hx h.2.2)]
      have l0 : (((nth D 1 : Nat) : Int) == 0) = false := by simp; omega
      clear hx
      go_enter Try.func28, Try.ntmps28
      go_wp2_with (first
        | (go_at_call 60; have _t := t1; clear t1; refine (hM _).mono ?_; rintro e w3 ⟨rfl, g3⟩; clear c0 c1 c2 c3 c4 c5 c6 d0 d1 d2 d3 d4; obtain ⟨d0, d1, d2, d3, d4⟩ := (BO.keep g3 (by simp)).cell5)
        | (go_at_call 46; refine (hW _).mono ?_; rintro e w4 ⟨rfl, g4⟩; clear d0 d1 d2 d3 d4; have g34 := grown_trans g3 g4; obtain ⟨d0, d1, d2, d3, d4⟩ := (BO.keep g34 (by simp)).cell5; have hR4 := hR2.keep g34; have hcv4 := hcv.out _ hR4; have hS4 := hS.out; clear hcv hS; obtain ⟨x0, x1, x2⟩ := X _ g34; clear X; have B0 := BG.keep g34 (by simp); obtain ⟨c0, c1, c2, c3, c4, c5, c6⟩ := B0.cell7; have gU : w4.grownBy w4 (some w.heap.size) := (World.grownBy.refl _ _); have bZ4 := (bZ.keep g34 (by simp)).keep gU (by simp; omega))
        | (have _t := t2; refine wpList_stX _ rfl _ (.tmp 6) (.tmp 59) rfl w1.heap.size _ _ rfl rfl bZ4 i7 rfl (by simp [Value.oneCell']) ?_; clear t2; intro w9 b9 g9))
      refine bodyPost_ret (results_cell3 rfl _ _ _ ⟨w1.heap.size, 0, none⟩ _ (.bool false) (.int .i64 8) rfl (BxS.load (t := 38) b9 Try.underlying38 Try.info_gt) rfl rfl) rfl ?_
      exact ⟨rfl, grown_far (grown_far (grown_trans G g34) gU (fun q e => by cases e; exact Nat.le_refl _)) g9 (fun q e => by cases e; omega)⟩
    rw [hx] at X ⊢
    clear hx
    rw [if_pos ⟨rfl, rfl, rfl⟩]
    generalize nth D 2 = z at X b2 ⊢
    cases sh
    case false =>
      rw [if_neg (by decide)]
      clear t2
      go_enter Try.func28, Try.ntmps28
      go_wp2_with (first
        | (go_at_call 60; have _t := t1; clear t1; refine (hM _).mono ?_; rintro e w3 ⟨rfl, g3⟩; clear c0 c1 c2 c3 c4 c5 c6 d0 d1 d2 d3 d4; obtain ⟨d0, d1, d2, d3, d4⟩ := (BO.keep g3 (by simp)).cell5)
        | (go_at_call 46; refine (hW _).mono ?_; rintro e w4 ⟨rfl, g4⟩; clear d0 d1 d2 d3 d4; have g34 := grown_trans g3 g4; obtain ⟨d0, d1, d2, d3, d4⟩ := (BO.keep g34 (by simp)).cell5; have hR4 := hR2.keep g34; have hcv4 := hcv.out _ hR4; have hS4 := hS.out; clear hcv hS; obtain ⟨x0, x1, x2⟩ := X _ g34; clear X; have B0 := BG.keep g34 (by simp); obtain ⟨c0, c1, c2, c3, c4, c5, c6⟩ := B0.cell7; have s0 : True := trivial)
        | (have _t := s0; refine wpList_stC _ rfl _ _ _ rfl w.heap.size 1 38 #[.int .i64 cr, .int .i64 nx, .int .i64 ha, .bool false, .bool wa, .bool ag, .int .i64 ct] #[.int .i64 cr, .int .i64 (z : Int), .int .i64 ha, .bool false, .bool wa, .bool ag, .int .i64 ct] (.int .i64 (z : Int)) rfl rfl B0 (stc_int _ _ _) (by simp) rfl ?_; clear s0; intro v1 B1 gS1; clear c0 c1 c2 c3 c4 c5 c6; obtain ⟨c0, c1, c2, c3, c4, c5, c6⟩ := B1.cell7; have U1 := gS1; have s1 : True := trivial)
        | (have _t := s1; refine wpList_stC _ rfl _ _ _ rfl w.heap.size 4 38 #[.int .i64 cr, .int .i64 (z : Int), .int .i64 ha, .bool false, .bool wa, .bool ag, .int .i64 ct] #[.int .i64 cr, .int .i64 (z : Int), .int .i64 ha, .bool false, .bool false, .bool ag, .int .i64 ct] (.bool false) rfl rfl B1 (stc_bool _ _ _) (by simp) rfl ?_; clear s1; intro v2 B2 gS2; clear c0 c1 c2 c3 c4 c5 c6; obtain ⟨c0, c1, c2, c3, c4, c5, c6⟩ := B2.cell7; have U2 := grown_trans U1 gS2; have s2 : True := trivial)
        | (have _t := s2; refine wpList_stC _ rfl _ _ _ rfl w.heap.size 5 38 #[.int .i64 cr, .int .i64 (z : Int), .int .i64 ha, .bool false, .bool false, .bool ag, .int .i64 ct] #[.int .i64 cr, .int .i64 (z : Int), .int .i64 ha, .bool false, .bool false, .bool false, .int .i64 ct] (.bool false) rfl rfl B2 (stc_bool _ _ _) (by simp) rfl ?_; clear s2; intro v3 B3 gS3; clear c0 c1 c2 c3 c4 c5 c6; obtain ⟨c0, c1, c2, c3, c4, c5, c6⟩ := B3.cell7; have U3 := grown_trans U2 gS3; have s3 : True := trivial)
        | (have _t := s3; refine wpList_stC _ rfl _ _ _ rfl w.heap.size 6 38 #[.int .i64 cr, .int .i64 (z : Int), .int .i64 ha, .bool false, .bool false, .bool false, .int .i64 ct] #[.int .i64 cr, .int .i64 (z : Int), .int .i64 ha, .bool false, .bool false, .bool false, .int .i64 y] (.int .i64 y) rfl rfl B3 (stc_int _ _ _) (by simp) rfl ?_; clear s3; intro v4 B4 gS4; clear c0 c1 c2 c3 c4 c5 c6; obtain ⟨c0, c1, c2, c3, c4, c5, c6⟩ := B4.cell7; have U4 := grown_trans U3 gS4; have bZ4 := (bZ.keep g34 (by simp)).keep U4 (by simp; omega); have t2 : True := trivial; have s4 : True := trivial)
        | (have _t := t2; refine wpList_stX _ rfl _ (.tmp 6) (.tmp 80) rfl w1.heap.size _ _ rfl rfl bZ4 i7 rfl (by simp [Value.oneCell']) ?_; clear t2; intro w9 b9 g9))
      refine bodyPost_ret (results_cell3 rfl _ _ _ ⟨w1.heap.size, 0, none⟩ _ (.bool false) (.int .i64 0) rfl (BxS.load (t := 38) b9 Try.underlying38 Try.info_gt) rfl rfl) rfl ?_
      exact ⟨rfl, grown_far (grown_far (grown_trans G g34) U4 (fun q e => by cases e; exact Nat.le_refl _)) g9 (fun q e => by cases e; omega)⟩
    rw [if_pos rfl]
    go_enter Try.func28, Try.ntmps28
    go_wp2_with (first
      | (go_at_call 60; have _t := t1; clear t1; refine (hM _).mono ?_; rintro e w3 ⟨rfl, g3⟩; clear c0 c1 c2 c3 c4 c5 c6 d0 d1 d2 d3 d4; obtain ⟨d0, d1, d2, d3, d4⟩ := (BO.keep g3 (by simp)).cell5)
      | (go_at_call 46; refine (hW _).mono ?_; rintro e w4 ⟨rfl, g4⟩; clear d0 d1 d2 d3 d4; have g34 := grown_trans g3 g4; obtain ⟨d0, d1, d2, d3, d4⟩ := (BO.keep g34 (by simp)).cell5; have hR4 := hR2.keep g34; have hcv4 := hcv.out _ hR4; have hS4 := hS.out; clear hcv hS; obtain ⟨x0, x1, x2⟩ := X _ g34; clear X; have B0 := BG.keep g34 (by simp); obtain ⟨c0, c1, c2, c3, c4, c5, c6⟩ := B0.cell7; have F1 := B0.free 6; have B1 : BxS (w4.setCell ⟨w.heap.size, 6, none⟩ (.int .i64 y)) w.heap.size 38 #[.int .i64 cr, .int .i64 nx, .int .i64 ha, .bool true, .bool wa, .bool ag, .int .i64 y] := B0.set 6 (.int .i64 y); have K1 := B1.cell7; obtain ⟨e10, e11, e12, e13, e14, e15, e16⟩ := K1; have gU : w4.grownBy (w4.setCell ⟨w.heap.size, 6, none⟩ (.int .i64 y)) (some w.heap.size) := (grown_set w4 w.heap.size 6 (.int .i64 y)); have bZ4 := (bZ.keep g34 (by simp)).keep gU (by simp; omega))
      | (have _t := t2; refine wpList_stX _ rfl _ (.tmp 6) (.tmp 80) rfl w1.heap.size _ _ rfl rfl bZ4 i7 rfl (by simp [Value.oneCell']) ?_; clear t2; intro w9 b9 g9))
    refine bodyPost_ret (results_cell3 rfl _ _ _ ⟨w1.heap.size, 0, none⟩ _ (.bool false) (.int .i64 0) rfl (BxS.load (t := 38) b9 Try.underlying38 Try.info_gt) rfl rfl) rfl ?_
    exact ⟨rfl, grown_far (grown_far (grown_trans G g34) gU (fun q e => by cases e; exact Nat.le_refl _)) g9 (fun q e => by cases e; omega)⟩
  rw [if_neg (by decide)]
  cases bp
  case true =>
    rw [if_pos rfl]
    go_enter Try.func28, Try.ntmps28
    go_wp2_with (first
      | (go_at_call 60; have _t := t1; clear t1; refine (hM _).mono ?_; rintro e w3 ⟨rfl, g3⟩; clear c0 c1 c2 c3 c4 c5 c6 d0 d1 d2 d3 d4; obtain ⟨d0, d1, d2, d3, d4⟩ := (BO.keep g3 (by simp)).cell5)
      | (go_at_call 46; refine (hW _).mono ?_; rintro e w4 ⟨rfl, g4⟩; clear d0 d1 d2 d3 d4; have g34 := grown_trans g3 g4; obtain ⟨d0, d1, d2, d3, d4⟩ := (BO.keep g34 (by simp)).cell5; have hR4 := hR2.keep g34; have B0 := BG.keep g34 (by simp); obtain ⟨c0, c1, c2, c3, c4, c5, c6⟩ := B0.cell7; have F1 := B0.free 6; have B1 : BxS (w4.setCell ⟨w.heap.size, 6, none⟩ (.int .i64 y)) w.heap.size 38 #[.int .i64 cr, .int .i64 nx, .int .i64 ha, .bool sh, .bool wa, .bool ag, .int .i64 y] := B0.set 6 (.int .i64 y); have K1 := B1.cell7; obtain ⟨e10, e11, e12, e13, e14, e15, e16⟩ := K1; have gU : w4.grownBy (w4.setCell ⟨w.heap.size, 6, none⟩ (.int .i64 y)) (some w.heap.size) := (grown_set w4 w.heap.size 6 (.int .i64 y)); have bZ4 := (bZ.keep g34 (by simp)).keep gU (by simp; omega))
      | (have _t := t2; refine wpList_stX _ rfl _ (.tmp 6) (.tmp 88) rfl w1.heap.size _ _ rfl rfl bZ4 i7 rfl (by simp [Value.oneCell']) ?_; clear t2; intro w9 b9 g9))
    refine bodyPost_ret (results_cell3 rfl _ _ _ ⟨w1.heap.size, 0, none⟩ _ (.bool true) (.int .i64 0) rfl (BxS.load (t := 38) b9 Try.underlying38 Try.info_gt) rfl rfl) rfl ?_
    exact ⟨rfl, grown_far (grown_far (grown_trans G g34) gU (fun q e => by cases e; exact Nat.le_refl _)) g9 (fun q e => by cases e; omega)⟩
  rw [if_neg (by decide)]
  cases sh
  case true =>
    rw [if_pos rfl]
    go_enter Try.func28, Try.ntmps28
    go_wp2_with (first
      | (go_at_call 60; have _t := t1; clear t1; refine (hM _).mono ?_; rintro e w3 ⟨rfl, g3⟩; clear c0 c1 c2 c3 c4 c5 c6 d0 d1 d2 d3 d4; obtain ⟨d0, d1, d2, d3, d4⟩ := (BO.keep g3 (by simp)).cell5)
      | (go_at_call 46; refine (hW _).mono ?_; rintro e w4 ⟨rfl, g4⟩; clear d0 d1 d2 d3 d4; have g34 := grown_trans g3 g4; obtain ⟨d0, d1, d2, d3, d4⟩ := (BO.keep g34 (by simp)).cell5; have hR4 := hR2.keep g34; have B0 := BG.keep g34 (by simp); obtain ⟨c0, c1, c2, c3, c4, c5, c6⟩ := B0.cell7; have gU : w4.grownBy w4 (some w.heap.size) := (World.grownBy.refl _ _); have bZ4 := (bZ.keep g34 (by simp)).keep gU (by simp; omega))
      | (have _t := t2; refine wpList_stX _ rfl _ (.tmp 6) (.tmp 91) rfl w1.heap.size _ _ rfl rfl bZ4 i7 rfl (by simp [Value.oneCell']) ?_; clear t2; intro w9 b9 g9))
    refine bodyPost_ret (results_cell3 rfl _ _ _ ⟨w1.heap.size, 0, none⟩ _ (.bool false) (.int .i64 15) rfl (BxS.load (t := 38) b9 Try.underlying38 Try.info_gt) rfl rfl) rfl ?_
    exact ⟨rfl, grown_far (grown_far (grown_trans G g34) gU (fun q e => by cases e; exact Nat.le_refl _)) g9 (fun q e => by cases e; omega)⟩
  rw [if_neg (by decide)]
  obtain ⟨d, hd⟩ : ∃ d, d = (sq - nx) % 256 := ⟨_, rfl⟩
  have hd1 : (sq - nx + 256) % 256 = d := by omega
  have hd2 : (sq - nx + 256).tmod 256 = d := by rw [Int.tmod_eq_emod_of_nonneg (by omega)]; exact hd1
  have hd3 : 0 ≤ d ∧ d < 256 := by omega
  rw [← hd]
  clear hd
  by_cases h0 : d = 0
  · subst h0
    rw [if_pos rfl]
    cases room
    · rw [if_neg (by decide)]
      go_enter Try.func28, Try.ntmps28
      go_wp2_with (first
        | (go_at_call 60; have _t := t1; clear t1; refine (hM _).mono ?_; rintro e w3 ⟨rfl, g3⟩; clear c0 c1 c2 c3 c4 c5 c6 d0 d1 d2 d3 d4; obtain ⟨d0, d1, d2, d3, d4⟩ := (BO.keep g3 (by simp)).cell5)
        | (go_at_call 46; refine (hW _).mono ?_; rintro e w4 ⟨rfl, g4⟩; clear d0 d1 d2 d3 d4; have g34 := grown_trans g3 g4; obtain ⟨d0, d1, d2, d3, d4⟩ := (BO.keep g34 (by simp)).cell5; have hR4 := hR2.keep g34; have B0 := BG.keep g34 (by simp); obtain ⟨c0, c1, c2, c3, c4, c5, c6⟩ := B0.cell7; have F1 := B0.free 4; have B1 : BxS (w4.setCell ⟨w.heap.size, 4, none⟩ (.bool true)) w.heap.size 38 #[.int .i64 cr, .int .i64 nx, .int .i64 ha, .bool false, .bool true, .bool ag, .int .i64 ct] := B0.set 4 (.bool true); have K1 := B1.cell7; obtain ⟨e10, e11, e12, e13, e14, e15, e16⟩ := K1; have F2 := B1.free 5; have B2 : BxS ((w4.setCell ⟨w.heap.size, 4, none⟩ (.bool true)).setCell ⟨w.heap.size, 5, none⟩ (.bool true)) w.heap.size 38 #[.int .i64 cr, .int .i64 nx, .int .i64 ha, .bool false, .bool true, .bool true, .int .i64 ct] := B1.set 5 (.bool true); have K2 := B2.cell7; obtain ⟨e20, e21, e22, e23, e24, e25, e26⟩ := K2; have gU : w4.grownBy ((w4.setCell ⟨w.heap.size, 4, none⟩ (.bool true)).setCell ⟨w.heap.size, 5, none⟩ (.bool true)) (some w.heap.size) := (grown_trans (grown_set w4 w.heap.size 4 (.bool true)) (grown_set (w4.setCell ⟨w.heap.size, 4, none⟩ (.bool true)) w.heap.size 5 (.bool true))); have bZ4 := (bZ.keep g34 (by simp)).keep gU (by simp; omega))
        | (have _t := t2; refine wpList_stX _ rfl _ (.tmp 6) (.tmp 116) rfl w1.heap.size _ _ rfl rfl bZ4 i7 rfl (by simp [Value.oneCell']) ?_; clear t2; intro w9 b9 g9))
      refine bodyPost_ret (results_cell3 rfl _ _ _ ⟨w1.heap.size, 0, none⟩ _ (.bool false) (.int .i64 12) rfl (BxS.load (t := 38) b9 Try.underlying38 Try.info_gt) rfl rfl) rfl ?_
      exact ⟨rfl, grown_far (grown_far (grown_trans G g34) gU (fun q e => by cases e; exact Nat.le_refl _)) g9 (fun q e => by cases e; omega)⟩
    · rw [if_pos rfl]
      obtain ⟨x, hx⟩ : ∃ x, x = (nx + 1) % 256 := ⟨_, rfl⟩
      have hx1 : (nx + 1) % 256 = x := hx.symm
      have hx2 : (nx + 1).tmod 256 = x := by rw [Int.tmod_eq_emod_of_nonneg (by omega)]; exact hx1
      have hx3 : 0 ≤ x ∧ x < 256 := by omega
      rw [hx1]
      clear hx
      go_enter Try.func28, Try.ntmps28
      go_wp2_with (first
        | (go_at_call 60; have _t := t1; clear t1; refine (hM _).mono ?_; rintro e w3 ⟨rfl, g3⟩; clear c0 c1 c2 c3 c4 c5 c6 d0 d1 d2 d3 d4; obtain ⟨d0, d1, d2, d3, d4⟩ := (BO.keep g3 (by simp)).cell5)
        | (go_at_call 46; refine (hW _).mono ?_; rintro e w4 ⟨rfl, g4⟩; clear d0 d1 d2 d3 d4; have g34 := grown_trans g3 g4; obtain ⟨d0, d1, d2, d3, d4⟩ := (BO.keep g34 (by simp)).cell5; have hR4 := hR2.keep g34; have B0 := BG.keep g34 (by simp); obtain ⟨c0, c1, c2, c3, c4, c5, c6⟩ := B0.cell7; have F1 := B0.free 1; have B1 : BxS (w4.setCell ⟨w.heap.size, 1, none⟩ (.int .i64 x)) w.heap.size 38 #[.int .i64 cr, .int .i64 x, .int .i64 ha, .bool false, .bool wa, .bool ag, .int .i64 ct] := B0.set 1 (.int .i64 x); have K1 := B1.cell7; obtain ⟨e10, e11, e12, e13, e14, e15, e16⟩ := K1; have F2 := B1.free 4; have B2 : BxS ((w4.setCell ⟨w.heap.size, 1, none⟩ (.int .i64 x)).setCell ⟨w.heap.size, 4, none⟩ (.bool false)) w.heap.size 38 #[.int .i64 cr, .int .i64 x, .int .i64 ha, .bool false, .bool false, .bool ag, .int .i64 ct] := B1.set 4 (.bool false); have K2 := B2.cell7; obtain ⟨e20, e21, e22, e23, e24, e25, e26⟩ := K2; have F3 := B2.free 5; have B3 : BxS (((w4.setCell ⟨w.heap.size, 1, none⟩ (.int .i64 x)).setCell ⟨w.heap.size, 4, none⟩ (.bool false)).setCell ⟨w.heap.size, 5, none⟩ (.bool false)) w.heap.size 38 #[.int .i64 cr, .int .i64 x, .int .i64 ha, .bool false, .bool false, .bool false, .int .i64 ct] := B2.set 5 (.bool false); have K3 := B3.cell7; obtain ⟨e30, e31, e32, e33, e34, e35, e36⟩ := K3; have gU : w4.grownBy (((w4.setCell ⟨w.heap.size, 1, none⟩ (.int .i64 x)).setCell ⟨w.heap.size, 4, none⟩ (.bool false)).setCell ⟨w.heap.size, 5, none⟩ (.bool false)) (some w.heap.size) := (grown_trans (grown_trans (grown_set w4 w.heap.size 1 (.int .i64 x)) (grown_set (w4.setCell ⟨w.heap.size, 1, none⟩ (.int .i64 x)) w.heap.size 4 (.bool false))) (grown_set ((w4.setCell ⟨w.heap.size, 1, none⟩ (.int .i64 x)).setCell ⟨w.heap.size, 4, none⟩ (.bool false)) w.heap.size 5 (.bool false))); have bZ4 := (bZ.keep g34 (by simp)).keep gU (by simp; omega))
        | (have _t := t2; refine wpList_stX _ rfl _ (.tmp 6) (.tmp 111) rfl w1.heap.size _ _ rfl rfl bZ4 i7 rfl (by simp [Value.oneCell']) ?_; clear t2; intro w9 b9 g9))
      refine bodyPost_ret (results_cell3 rfl _ _ _ ⟨w1.heap.size, 0, none⟩ _ (.bool true) (.int .i64 0) rfl (BxS.load (t := 38) b9 Try.underlying38 Try.info_gt) rfl rfl) rfl ?_
      exact ⟨rfl, grown_far (grown_far (grown_trans G g34) gU (fun q e => by cases e; exact Nat.le_refl _)) g9 (fun q e => by cases e; omega)⟩
  rw [if_neg h0]
  have l0 : ((d == 0) : Bool) = false := by simp; omega
  by_cases h1 : d < ha
  · rw [if_pos h1]
    go_enter Try.func28, Try.ntmps28
    go_wp2_with (first
      | (go_at_call 60; have _t := t1; clear t1; refine (hM _).mono ?_; rintro e w3 ⟨rfl, g3⟩; clear c0 c1 c2 c3 c4 c5 c6 d0 d1 d2 d3 d4; obtain ⟨d0, d1, d2, d3, d4⟩ := (BO.keep g3 (by simp)).cell5)
      | (go_at_call 46; refine (hW _).mono ?_; rintro e w4 ⟨rfl, g4⟩; clear d0 d1 d2 d3 d4; have g34 := grown_trans g3 g4; obtain ⟨d0, d1, d2, d3, d4⟩ := (BO.keep g34 (by simp)).cell5; have hR4 := hR2.keep g34; have B0 := BG.keep g34 (by simp); obtain ⟨c0, c1, c2, c3, c4, c5, c6⟩ := B0.cell7; have F1 := B0.free 5; have B1 : BxS (w4.setCell ⟨w.heap.size, 5, none⟩ (.bool true)) w.heap.size 38 #[.int .i64 cr, .int .i64 nx, .int .i64 ha, .bool false, .bool wa, .bool true, .int .i64 ct] := B0.set 5 (.bool true); have K1 := B1.cell7; obtain ⟨e10, e11, e12, e13, e14, e15, e16⟩ := K1; have gU : w4.grownBy (w4.setCell ⟨w.heap.size, 5, none⟩ (.bool true)) (some w.heap.size) := (grown_set w4 w.heap.size 5 (.bool true)); have bZ4 := (bZ.keep g34 (by simp)).keep gU (by simp; omega))
      | (have _t := t2; refine wpList_stX _ rfl _ (.tmp 6) (.tmp 122) rfl w1.heap.size _ _ rfl rfl bZ4 i7 rfl (by simp [Value.oneCell']) ?_; clear t2; intro w9 b9 g9))
    refine bodyPost_ret (results_cell3 rfl _ _ _ ⟨w1.heap.size, 0, none⟩ _ (.bool false) (.int .i64 7) rfl (BxS.load (t := 38) b9 Try.underlying38 Try.info_gt) rfl rfl) rfl ?_
    exact ⟨rfl, grown_far (grown_far (grown_trans G g34) gU (fun q e => by cases e; exact Nat.le_refl _)) g9 (fun q e => by cases e; omega)⟩
  rw [if_neg h1]
  by_cases h2 : 256 - ha ≤ d
  · rw [if_pos h2]
    go_enter Try.func28, Try.ntmps28
    go_wp2_with (first
      | (go_at_call 60; have _t := t1; clear t1; refine (hM _).mono ?_; rintro e w3 ⟨rfl, g3⟩; clear c0 c1 c2 c3 c4 c5 c6 d0 d1 d2 d3 d4; obtain ⟨d0, d1, d2, d3, d4⟩ := (BO.keep g3 (by simp)).cell5)
      | (go_at_call 46; refine (hW _).mono ?_; rintro e w4 ⟨rfl, g4⟩; clear d0 d1 d2 d3 d4; have g34 := grown_trans g3 g4; obtain ⟨d0, d1, d2, d3, d4⟩ := (BO.keep g34 (by simp)).cell5; have hR4 := hR2.keep g34; have B0 := BG.keep g34 (by simp); obtain ⟨c0, c1, c2, c3, c4, c5, c6⟩ := B0.cell7; have gU : w4.grownBy w4 (some w.heap.size) := (World.grownBy.refl _ _); have bZ4 := (bZ.keep g34 (by simp)).keep gU (by simp; omega))
      | (have _t := t2; refine wpList_stX _ rfl _ (.tmp 6) (.tmp 128) rfl w1.heap.size _ _ rfl rfl bZ4 i7 rfl (by simp [Value.oneCell']) ?_; clear t2; intro w9 b9 g9))
    refine bodyPost_ret (results_cell3 rfl _ _ _ ⟨w1.heap.size, 0, none⟩ _ (.bool false) (.int .i64 13) rfl (BxS.load (t := 38) b9 Try.underlying38 Try.info_gt) rfl rfl) rfl ?_
    exact ⟨rfl, grown_far (grown_far (grown_trans G g34) gU (fun q e => by cases e; exact Nat.le_refl _)) g9 (fun q e => by cases e; omega)⟩
  rw [if_neg h2]
  go_enter Try.func28, Try.ntmps28
  go_wp2_with (first
    | (go_at_call 60; have _t := t1; clear t1; refine (hM _).mono ?_; rintro e w3 ⟨rfl, g3⟩; clear c0 c1 c2 c3 c4 c5 c6 d0 d1 d2 d3 d4; obtain ⟨d0, d1, d2, d3, d4⟩ := (BO.keep g3 (by simp)).cell5)
    | (go_at_call 46; refine (hW _).mono ?_; rintro e w4 ⟨rfl, g4⟩; clear d0 d1 d2 d3 d4; have g34 := grown_trans g3 g4; obtain ⟨d0, d1, d2, d3, d4⟩ := (BO.keep g34 (by simp)).cell5; have hR4 := hR2.keep g34; have B0 := BG.keep g34 (by simp); obtain ⟨c0, c1, c2, c3, c4, c5, c6⟩ := B0.cell7; have F1 := B0.free 3; have B1 : BxS (w4.setCell ⟨w.heap.size, 3, none⟩ (.bool true)) w.heap.size 38 #[.int .i64 cr, .int .i64 nx, .int .i64 ha, .bool true, .bool wa, .bool ag, .int .i64 ct] := B0.set 3 (.bool true); have K1 := B1.cell7; obtain ⟨e10, e11, e12, e13, e14, e15, e16⟩ := K1; have gU : w4.grownBy (w4.setCell ⟨w.heap.size, 3, none⟩ (.bool true)) (some w.heap.size) := (grown_set w4 w.heap.size 3 (.bool true)); have bZ4 := (bZ.keep g34 (by simp)).keep gU (by simp; omega))
    | (have _t := t2; refine wpList_stX _ rfl _ (.tmp 6) (.tmp 130) rfl w1.heap.size _ _ rfl rfl bZ4 i7 rfl (by simp [Value.oneCell']) ?_; clear t2; intro w9 b9 g9))
  refine bodyPost_ret (results_cell3 rfl _ _ _ ⟨w1.heap.size, 0, none⟩ _ (.bool false) (.int .i64 15) rfl (BxS.load (t := 38) b9 Try.underlying38 Try.info_gt) rfl rfl) rfl ?_
  exact ⟨rfl, grown_far (grown_far (grown_trans G g34) gU (fun q e => by cases e; exact Nat.le_refl _)) g9 (fun q e => by cases e; omega)⟩
end Go.Proofs.Ytkjcpoapkkaagaa
