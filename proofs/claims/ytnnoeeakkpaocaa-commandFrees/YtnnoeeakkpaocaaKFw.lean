import Derived.Test.YtnnoeeakkpaocaaKFe
import Derived.Test.YtnnoeeakkpaocaaKHc
namespace Go.Proofs.Ytnnoeeakkpaocaa
open Go.RowKit
set_option maxRecDepth 100000
set_option linter.unusedVariables false
set_option linter.unusedSimpArgs false
theorem fr_fit (d : Hd) : ((Fit 140737488351232 (frV d).S ∧ (frV d).S.length * 24 ≤ 140737488351232) ∧ (Fit 140737488351232 (frV d).Q ∧ (frV d).Q.length * 24 ≤ 140737488351232)) ∧ (Fit 140737488351232 (frR d) ∧ (frR d).length * 24 ≤ 140737488351232) := by
  cases hB : hndB d with
  | false =>
    have e1 : frV d = hd0 := if_neg (by rw [hB]; simp)
    have e3 : frR d = [] := if_neg (by rw [hB]; simp)
    rw [e1, e3]
    exact ⟨⟨⟨(fun r h => by cases h), by decide⟩, ⟨(fun r h => by cases h), by decide⟩⟩, ⟨(fun r h => by cases h), by decide⟩⟩
  | true =>
    obtain ⟨⟨c0', c1'⟩, n1, n2, f1, f2, _, _⟩ := hnd_ok hB
    have e1 : (frV d).S = d.S ∧ (frV d).Q = d.Q := by
      unfold frV
      rw [if_pos hB]
      split <;> exact ⟨rfl, rfl⟩
    rw [e1.1, e1.2]
    refine ⟨⟨⟨(fun r h => by have := f1 r h; omega), by omega⟩, ⟨(fun r h => by have := f2 r h; omega), by omega⟩⟩, ?_⟩
    unfold frR
    rw [if_pos hB]
    split
    · refine ⟨fun r h => ?_, by simp⟩
      have h := List.mem_singleton.1 h
      rw [h, orL_len]
      simp
    · exact ⟨(fun r h => by cases h), by decide⟩
set_option maxHeartbeats 16000000 in
theorem frees_walk (X : Hx) (d : Hd) (w : World) (h : RdHd w X d) (fd : (Fit 140737488351232 d.S ∧ X.sn * 24 ≤ 140737488351232) ∧ (Fit 140737488351232 d.Q ∧ X.qn * 24 ≤ 140737488351232)) :
    Calls Try.prog 10 #[.agg (hnV d X)] w fun e w' => e = .returned (.bool true) ∧ Below w.heap.size w w' := by
  have b0 := BxS.new w 50 #[.int .i64 d.cr, .int .i64 d.nx, .int .i64 d.ah, .slice X.sa X.sn X.sc, .slice X.qa X.qn X.qc, .int .i64 d.ti, .int .i64 d.pa, .int .i64 d.tr, .int .i64 d.li, .int .i64 d.si, .int .i64 d.pu, .int .i64 d.hl]
  have g0 := World.grownBy_alloc w (.cells #[.int .i64 d.cr, .int .i64 d.nx, .int .i64 d.ah, .slice X.sa X.sn X.sc, .slice X.qa X.qn X.qc, .int .i64 d.ti, .int .i64 d.pa, .int .i64 d.tr, .int .i64 d.li, .int .i64 d.si, .int .i64 d.pu, .int .i64 d.hl] 50) none
  generalize hw0 : w.alloc (.cells #[.int .i64 d.cr, .int .i64 d.nx, .int .i64 d.ah, .slice X.sa X.sn X.sc, .slice X.qa X.qn X.qc, .int .i64 d.ti, .int .i64 d.pa, .int .i64 d.tr, .int .i64 d.li, .int .i64 d.si, .int .i64 d.pu, .int .i64 d.hl] 50) = w0 at b0 g0
  have hF := rfree2_any X d w0 (h.keep g0)
  have hC := fun wz (Z : Hx) (_ : True) (hz : RdHd wz Z d) => free2_any Z d wz hz
  obtain ⟨fW, fR⟩ := fr_fit d
  have l1 := h.s.len
  have l2 := h.q.len
  generalize frV d = W at *
  generalize frR d = R at *
  generalize frE d = Er at *
  have hA := fun Y ra rn rc wz hd hw hr => handAs_free d W R Er X Y ra rn rc wz (fun _ => True) (fun _ _ _ _ => trivial) trivial hC hd hw hr ⟨⟨fd.1.1, by omega⟩, ⟨fd.2.1, by omega⟩⟩ fW fR
  clear hC
  unfold hnV at hF ⊢
  obtain ⟨c0, c1, c2, c3, c4, c5, c6, c7, c8, c9, c10, c11⟩ := b0.cell12
  go_enter Try.func10, Try.ntmps10
  go_wp2_with (first
    | (go_at_call 41; refine hF.mono ?_; rintro e w2 ⟨Y, ra, rn, rc, rfl, hw, hr, y2⟩; have yA := World.grownBy_alloc w2 (.cells #[.int .i64 W.cr, .int .i64 W.nx, .int .i64 W.ah, .slice Y.sa Y.sn Y.sc, .slice Y.qa Y.qn Y.qc, .int .i64 W.ti, .int .i64 W.pa, .int .i64 W.tr, .int .i64 W.li, .int .i64 W.si, .int .i64 W.pu, .int .i64 W.hl] 50) none; have b3 := BxS.new w2 50 #[.int .i64 W.cr, .int .i64 W.nx, .int .i64 W.ah, .slice Y.sa Y.sn Y.sc, .slice Y.qa Y.qn Y.qc, .int .i64 W.ti, .int .i64 W.pa, .int .i64 W.tr, .int .i64 W.li, .int .i64 W.si, .int .i64 W.pu, .int .i64 W.hl]; have YA := grown_trans y2 yA; clear c0 c1 c2 c3 c4 c5 c6 c7 c8 c9 c10 c11; obtain ⟨c0, c1, c2, c3, c4, c5, c6, c7, c8, c9, c10, c11⟩ := (b0.keep YA (by simp)).cell12; obtain ⟨e0, e1, e2, e3, e4, e5, e6, e7, e8, e9, e10, e11⟩ := b3.cell12)
    | (go_at_call 36; refine (hA Y ra rn rc _ (h.keep (grown_trans g0 YA)) (hw.keep yA) (hr.keep yA)).mono ?_; rintro e w3 ⟨rfl, y3⟩))
  go_ret
  exact ⟨rfl, (Below.refl _ _).grown (grown_trans (grown_trans g0 YA) y3) (Nat.le_refl _) (fun k hk => by cases hk)⟩
end Go.Proofs.Ytnnoeeakkpaocaa
