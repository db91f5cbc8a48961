import Derived.Test.YtkjcpoapkkaagaaKAc2
namespace Go.Proofs.Ytkjcpoapkkaagaa
open Go.RowKit
set_option maxRecDepth 100000
set_option linter.unusedVariables false
set_option linter.unusedSimpArgs false

def gt0 : Gt := ⟨0, 0, 0, false, false, false, 0⟩
/-- what Accept answers -/
def Gt.acc (g : Gt) (cr : Int) (bp co : Bool) (sq : Int) (D : List Nat) (room : Bool) : Gt × Bool × Nat :=
  if g.may = true then (if orE cr bp co sq D.length = 0 then (if cr = g.cr then g.tak bp co sq D room else (g, false, 10)) else (g, false, orE cr bp co sq D.length)) else (gt0, false, 11)
set_option maxHeartbeats 16000000 in
theorem accept_any (g : Gt) (cr : Int) (bp co : Bool) (sq : Int) (a : Option Addr) (n c : Nat) (D : List Nat) (room : Bool) (w : World) (hR : Rd w a n c D) :
    Calls Try.prog 29 #[.agg g.A, .agg (orA cr bp co sq a n c), .bool room] w fun e w' => e = .returned (.tuple #[.agg (g.acc cr bp co sq D room).1.A, .bool (g.acc cr bp co sq D room).2.1, .int .i64 ((g.acc cr bp co sq D room).2.2 : Nat)]) ∧ w.grownBy w' none := by
  have HL : Hid (D.length = n) := hR.len
  have hM := fun wz => gmay_any g.cr g.nx g.ha g.sh g.wa g.ag g.ct wz
  have hW := fun wz => worder_any cr bp co sq a n c wz
  have hT := fun b wz h1 h2 h3 h4 h5 h6 => ktake_any b g cr bp co sq a n c D room wz h1 h2 h3 h4 h5 h6
  unfold Gt.acc
  rw [HL.out]
  generalize g.tak bp co sq D room = T at hT ⊢
  obtain ⟨T1, T2, T3⟩ := T
  have hok := @orE_ok cr bp co sq n
  have hM : ∀ wz : World, Calls Try.prog 59 #[.agg (gtA g.cr g.nx g.ha g.sh g.wa g.ag g.ct)] wz fun e w' => e = .returned (.bool g.may) ∧ wz.grownBy w' none := hM
  obtain ⟨gr, nx, ha, sh, wa, ag, ct⟩ := g
  obtain ⟨ur, ux, ua, uh, uw, ug, ut⟩ := T1
  generalize orE cr bp co sq n = E at hW hok ⊢
  generalize Gt.may ⟨gr, nx, ha, sh, wa, ag, ct⟩ = M at hM hT ⊢
  simp only [Gt.A] at hT ⊢
  have bG := BxS.new w 38 (gtA gr nx ha sh wa ag ct)
  have g0 := World.grownBy_alloc w (.cells (gtA gr nx ha sh wa ag ct) 38) none
  unfold gtA at bG g0
  generalize hw0 : w.alloc (.cells #[.int .i64 gr, .int .i64 nx, .int .i64 ha, .bool sh, .bool wa, .bool ag, .int .i64 ct] 38) = w0 at bG g0
  have bO := BxS.new w0 24 (orA cr bp co sq a n c)
  have g1 := World.grownBy_alloc w0 (.cells (orA cr bp co sq a n c) 24) none
  unfold orA at bO g1
  generalize hw1 : w0.alloc (.cells #[.int .i64 cr, .bool bp, .bool co, .int .i64 sq, .slice a n c] 24) = w1 at bO g1
  have bZ := BxS.new w1 38 #[.int .i64 0, .int .i64 0, .int .i64 0, .bool false, .bool false, .bool false, .int .i64 0]
  have g2 := World.grownBy_alloc w1 (.cells #[.int .i64 0, .int .i64 0, .int .i64 0, .bool false, .bool false, .bool false, .int .i64 0] 38) none
  generalize hw2 : w1.alloc (.cells #[.int .i64 0, .int .i64 0, .int .i64 0, .bool false, .bool false, .bool false, .int .i64 0] 38) = w2 at bZ g2
  have z1 := bG.lt
  have z2 := bO.lt
  have z3 := bZ.lt
  have BG := (bG.keep g1 (by simp)).keep g2 (by simp)
  have BO := bO.keep g2 (by simp)
  have G := grown_trans (grown_trans g0 g1) g2
  have hs1 := g0.size
  have hs2 := g1.size
  have hs3 := g2.size
  have hR2 := hR.keep G
  have i7 := Try.info_gt
  obtain ⟨c0, c1, c2, c3, c4, c5, c6⟩ := BG.cell7
  obtain ⟨d0, d1, d2, d3, d4⟩ := BO.cell5
  have t1 : True := trivial
  have t2 : True := trivial
  unfold gtA at hM hT ⊢
  unfold orA at hW hT ⊢
  cases M
  case false =>
    rw [if_neg (by decide)]
    unfold gt0
    go_enter Try.func29, Try.ntmps29
    go_wp2_with (first
      | (go_at_call 59; have _t := t1; clear t1; refine (hM _).mono ?_; rintro e w3 ⟨rfl, g3⟩; have bZ3 := bZ.keep g3 (by simp))
      | (have _t := t2; refine wpList_stX _ rfl _ (.tmp 6) (.tmp 16) rfl w1.heap.size _ _ rfl rfl bZ3 i7 rfl (by simp [Value.oneCell']) ?_; clear t2; intro w9 b9 g9))
    refine bodyPost_ret (results_cell3 rfl _ _ _ ⟨w1.heap.size, 0, none⟩ _ (.bool false) (.int .i64 11) rfl (BxS.load (t := 38) b9 Try.underlying38 Try.info_gt) rfl rfl) rfl ?_
    exact ⟨rfl, grown_far (grown_trans G g3) g9 (fun q e => by cases e; omega)⟩
  rw [if_pos rfl]
  by_cases hE : E = 0
  case neg =>
    rw [if_neg hE]
    have hne : (((E : Int) != 0) : Bool) = true := by simp; omega
    clear hok hE
    go_enter Try.func29, Try.ntmps29
    go_wp2_with (first
      | (go_at_call 59; have _t := t1; clear t1; refine (hM _).mono ?_; rintro e w3 ⟨rfl, g3⟩; clear c0 c1 c2 c3 c4 c5 c6 d0 d1 d2 d3 d4; obtain ⟨d0, d1, d2, d3, d4⟩ := (BO.keep g3 (by simp)).cell5)
      | (go_at_call 49; refine (hW _).mono ?_; rintro e w4 ⟨rfl, g4⟩; clear d0 d1 d2 d3 d4; have g34 := grown_trans g3 g4; have bZ4 := bZ.keep g34 (by simp); obtain ⟨c0, c1, c2, c3, c4, c5, c6⟩ := (BG.keep g34 (by simp)).cell7)
      | (have _t := t2; refine wpList_stX _ rfl _ (.tmp 6) (.tmp 21) rfl w1.heap.size _ _ rfl rfl bZ4 i7 rfl (by simp [Value.oneCell']) ?_; clear t2; intro w9 b9 g9))
    refine bodyPost_ret (results_cell3 rfl _ _ _ ⟨w1.heap.size, 0, none⟩ _ (.bool false) (.int .i64 (E : Int)) rfl (BxS.load (t := 38) b9 Try.underlying38 Try.info_gt) rfl rfl) rfl ?_
    exact ⟨rfl, grown_far (grown_trans G g34) g9 (fun q e => by cases e; omega)⟩
  rw [if_pos hE]
  subst hE
  obtain ⟨_, ⟨s1, s2⟩, _, n1, n2⟩ := hok rfl
  clear hok
  by_cases hC : cr = gr
  case neg =>
    rw [if_neg hC]
    have hne : ((cr != gr) : Bool) = true := by simp; omega
    clear hC
    go_enter Try.func29, Try.ntmps29
    go_wp2_with (first
      | (go_at_call 59; have _t := t1; clear t1; refine (hM _).mono ?_; rintro e w3 ⟨rfl, g3⟩; clear c0 c1 c2 c3 c4 c5 c6 d0 d1 d2 d3 d4; obtain ⟨d0, d1, d2, d3, d4⟩ := (BO.keep g3 (by simp)).cell5)
      | (go_at_call 49; refine (hW _).mono ?_; rintro e w4 ⟨rfl, g4⟩; clear d0 d1 d2 d3 d4; have g34 := grown_trans g3 g4; have bZ4 := bZ.keep g34 (by simp); obtain ⟨c0, c1, c2, c3, c4, c5, c6⟩ := (BG.keep g34 (by simp)).cell7; obtain ⟨d0, d1, d2, d3, d4⟩ := (BO.keep g34 (by simp)).cell5)
      | (have _t := t2; refine wpList_stX _ rfl _ (.tmp 6) (.tmp 28) rfl w1.heap.size _ _ rfl rfl bZ4 i7 rfl (by simp [Value.oneCell']) ?_; clear t2; intro w9 b9 g9))
    refine bodyPost_ret (results_cell3 rfl _ _ _ ⟨w1.heap.size, 0, none⟩ _ (.bool false) (.int .i64 10) rfl (BxS.load (t := 38) b9 Try.underlying38 Try.info_gt) rfl rfl) rfl ?_
    exact ⟨rfl, grown_far (grown_trans G g34) g9 (fun q e => by cases e; omega)⟩
  rw [if_pos hC]
  subst hC
  go_enter Try.func29, Try.ntmps29
  go_wp2_with (first
    | (go_at_call 59; have _t := t1; clear t1; refine (hM _).mono ?_; rintro e w3 ⟨rfl, g3⟩; clear c0 c1 c2 c3 c4 c5 c6 d0 d1 d2 d3 d4; obtain ⟨d0, d1, d2, d3, d4⟩ := (BO.keep g3 (by simp)).cell5)
    | (go_at_call 49; refine (hW _).mono ?_; rintro e w4 ⟨rfl, g4⟩; clear d0 d1 d2 d3 d4; have g34 := grown_trans g3 g4; obtain ⟨c0, c1, c2, c3, c4, c5, c6⟩ := (BG.keep g34 (by simp)).cell7; have gA := World.grownBy_alloc w4 (.cells #[.int .i64 cr, .int .i64 nx, .int .i64 ha, .bool sh, .bool wa, .bool ag, .int .i64 ct] 89) none; have N5 := BxS.new w4 89 #[.int .i64 cr, .int .i64 nx, .int .i64 ha, .bool sh, .bool wa, .bool ag, .int .i64 ct]; have g35 := grown_trans g34 gA; obtain ⟨d0, d1, d2, d3, d4⟩ := (BO.keep g35 (by simp)).cell5; obtain ⟨d0', _, _, _, _⟩ := (BO.keep g34 (by simp)).cell5)
    | (go_at_call 63; refine (hT w4.heap.size _ N5 (by trivial) (hR2.keep g35) n2 s1 s2).mono ?_; rintro e w6 ⟨rfl, h6, g6⟩; clear c0 c1 c2 c3 c4 c5 c6 d0 d1 d2 d3 d4; have bZ6 := (bZ.keep g35 (by simp)).keep g6 (by have := g34.size; simp; omega); obtain ⟨c0, c1, c2, c3, c4, c5, c6⟩ := h6.cell7)
    | (have _t := t2; refine wpList_stX _ rfl _ (.tmp 6) (.tmp 38) rfl w1.heap.size _ _ rfl rfl bZ6 i7 rfl (by simp [Value.oneCell']) ?_; clear t2; intro w9 b9 g9))
  refine bodyPost_ret (results_cell3 rfl _ _ _ ⟨w1.heap.size, 0, none⟩ _ (.bool T2) (.int .i64 (T3 : Int)) rfl (BxS.load (t := 38) b9 Try.underlying38 Try.info_gt) rfl rfl) rfl ?_
  exact ⟨rfl, grown_far (grown_far (grown_trans G g35) g6 (fun q e => by cases e; have := (grown_trans G g34).size; omega)) g9 (fun q e => by cases e; omega)⟩
end Go.Proofs.Ytkjcpoapkkaagaa
