import Derived.Test.YtnimehkfnpepfaaVDc
import Derived.Test.YtnimehkfnpepfaaVDd
import Derived.Test.YtnimehkfnpepfaaVDe
namespace Go.Proofs.Ytnimehkfnpepfaa
open Go.RowKit
set_option maxRecDepth 100000
set_option linter.unusedVariables false
set_option linter.unusedSimpArgs false


set_option maxHeartbeats 16000000 in
/-- a note that is read, or bytes that end too early -/
theorem note_any (w0 w : World) (gr : Nat) (D : List Nat) (hR : Rdr w0 w gr D) (hl : D.length ≤ 2000) :
    Calls Try.prog 89 #[.pointer (some ⟨gr, 0, none⟩)] w (NoteA w0 w gr (noteR D)) := by
  have b2 := BxS.new w 27 #[.int .i64 0, .int .i64 0, .string ⟨#[]⟩, .int .i64 0, .int .i64 0, .int .i64 0, .slice none 0 0, .slice none 0 0, .int .i64 0, .int .i64 0]
  have y1 := World.grownBy_alloc w (.cells #[.int .i64 0, .int .i64 0, .string ⟨#[]⟩, .int .i64 0, .int .i64 0, .int .i64 0, .slice none 0 0, .slice none 0 0, .int .i64 0, .int .i64 0] 27) none
  generalize hw1 : w.alloc (.cells #[.int .i64 0, .int .i64 0, .string ⟨#[]⟩, .int .i64 0, .int .i64 0, .int .i64 0, .slice none 0 0, .slice none 0 0, .int .i64 0, .int .i64 0] 27) = w1 at b2 y1
  have hR1 := hR.keep y1
  have G1 : w.grownBy w1 (some gr) := grown_weak y1 _
  have h02 := hR.g.size
  have i10 := Try.info_nt
  have s0 : True := trivial
  go_enter Try.func89, Try.ntmps89
  by_cases h1 : D.length < 1
  · go_wp2_with (go_at_call 110; have _t := s0; clear s0; refine (number_no w0 w1 gr 1 D hR1 (by omega) (by omega)).mono ?_; rintro e w2 ⟨rfl, hw2⟩; have hw2 := hw2.symm; subst hw2)
    refine ⟨rfl, ?_⟩
    show NoteA _ _ _ _ _ _
    rw [show noteR D = none from by unfold noteR; rw [if_pos (by omega)]]
    exact ⟨⟨_, rfl⟩, G1⟩
  · by_cases h3 : D.length < 3
    · go_wp2_with (first
        | (go_at_call 110; have _t := s0; clear s0; refine (number_ok w0 w1 gr 1 D hR1 (by omega) (by omega)).mono ?_; rintro e w2 ⟨rfl, hR2, y2⟩; have b22 := b2.keep y2 (hR1.ne b2); have G2 := grown_trans G1 y2; have s1 : True := trivial)
        | (go_at_call 110; have _t := s1; clear s1; refine (number_no w0 w2 gr 2 (D.drop 1) hR2 (by omega) (by rw [List.length_drop]; omega)).mono ?_; rintro e w3 ⟨rfl, hw3⟩; have hw3 := hw3.symm; subst hw3))
      refine ⟨rfl, ?_⟩
      show NoteA _ _ _ _ _ _
      rw [show noteR D = none from by unfold noteR; rw [if_pos (by omega)]]
      exact ⟨⟨_, rfl⟩, G2⟩
    · have hnr : noteR D = kindR (hdV D 1) (hdV (D.drop 1) 2) (D.drop 3) := by unfold noteR; rw [if_neg h3]
      rw [hnr]
      clear hnr
      obtain ⟨c, hc⟩ : ∃ c, D.drop 3 = c := ⟨_, rfl⟩
      have hcl : c.length ≤ 2000 := by rw [← hc, List.length_drop]; omega
      obtain ⟨id, hid⟩ : ∃ id, hdV (D.drop 1) 2 = id := ⟨_, rfl⟩
      rw [hc, hid]
      have HC : Hid _ := hc
      have HID : Hid _ := hid
      clear hc hid
      refine wp_seq_k fun K1 hK1 => ?_
      have HK1 : Hid _ := hK1
      clear hK1
      go_wp2
      refine HK1.out _ _ ?_
      clear HK1
      refine wp_seq_k fun K2 hK2 => ?_
      have HK2 : Hid _ := hK2
      clear hK2
      go_wp2_with (first
        | (go_at_call 110; have _t := s0; clear s0; refine (number_ok w0 w1 gr 1 D hR1 (by omega) (by omega)).mono ?_; rintro e w2 ⟨rfl, hR2, y2⟩; have b22 := b2.keep y2 (hR1.ne b2); have G2 := grown_trans G1 y2; have s1 : True := trivial)
        | (go_at_call 110; have _t := s1; clear s1; refine (number_ok w0 w2 gr 2 (D.drop 1) hR2 (by omega) (by rw [List.length_drop]; omega)).mono ?_; rintro e w3 ⟨he3, hR3, y3⟩; rw [HID.out] at he3; subst he3; have b23 := b22.keep y3 (hR2.ne b22); have G3 := grown_trans G2 y3; have b33 := BxS.new w3 27 #[.int .i64 0, .int .i64 0, .string ⟨#[]⟩, .int .i64 0, .int .i64 0, .int .i64 0, .slice none 0 0, .slice none 0 0, .int .i64 0, .int .i64 0]; have y4 := World.grownBy_alloc w3 (.cells #[.int .i64 0, .int .i64 0, .string ⟨#[]⟩, .int .i64 0, .int .i64 0, .int .i64 0, .slice none 0 0, .slice none 0 0, .int .i64 0, .int .i64 0] 27) none; generalize hw4 : w3.alloc (.cells #[.int .i64 0, .int .i64 0, .string ⟨#[]⟩, .int .i64 0, .int .i64 0, .int .i64 0, .slice none 0 0, .slice none 0 0, .int .i64 0, .int .i64 0] 27) = w4 at b33 y4; have s2 : True := trivial)
        | (have _t := s2; clear s2; refine wpList_stX _ rfl _ (.tmp 3) (.tmp 9) rfl w3.heap.size _ _ rfl rfl b33 i10 rfl (by simp [Value.oneCell']) ?_; intro w5 b35 u5))
      have hw13 := G3.size
      have l2 := b23.lt
      have hne : w.heap.size ≠ w3.heap.size := by omega
      have b25 := (b23.keep y4 (by simp)).keep u5 (fun e => hne (Option.some.inj e))
      have hR5 := (hR3.keep y4).bx b33 u5 (by omega)
      have G5 := grown_mine (grown_trans G3 (grown_weak y4 _)) u5 (fun q e => .inr (by have e := Option.some.inj e; omega))
      rw [List.drop_drop, show D.drop (1 + 2) = c from HC.out] at hR5
      obtain ⟨g3, hg3⟩ : ∃ g3, w3.heap.size = g3 := ⟨_, rfl⟩
      have h3 : w.heap.size ≤ g3 := by omega
      rw [hg3] at b35 hne ⊢
      refine HK2.out _ _ ?_
      clear HK2
      by_cases e1 : hdV D 1 = 1
      · rw [e1] at b35 ⊢
        by_cases hl : c.length < 4
        · exact nt_n1 w0 w5 w gr w.heap.size g3 id c hR5 b35 b25 hne (Nat.le_refl _) h3 h02 G5 hcl hl
        · exact nt_k1 w0 w5 w gr w.heap.size g3 id c hR5 b35 b25 hne (Nat.le_refl _) h3 h02 G5 hcl hl
      by_cases e2 : hdV D 1 = 2
      · rw [e2] at b35 ⊢
        by_cases hl : c.length < 4
        · exact nt_n2 w0 w5 w gr w.heap.size g3 id c hR5 b35 b25 hne (Nat.le_refl _) h3 h02 G5 hcl hl
        · exact nt_k2 w0 w5 w gr w.heap.size g3 id c hR5 b35 b25 hne (Nat.le_refl _) h3 h02 G5 hcl hl
      by_cases e3 : hdV D 1 = 3
      · rw [e3] at b35 ⊢
        by_cases hl : c.length < 8
        · exact nt_n3 w0 w5 w gr w.heap.size g3 id c hR5 b35 b25 hne (Nat.le_refl _) h3 h02 G5 hcl hl
        · exact nt_k3 w0 w5 w gr w.heap.size g3 id c hR5 b35 b25 hne (Nat.le_refl _) h3 h02 G5 hcl hl
      by_cases e4 : hdV D 1 = 4
      · rw [e4] at b35 ⊢
        exact nt_k4 w0 w5 w gr w.heap.size g3 id c hR5 b35 b25 hne (Nat.le_refl _) h3 h02 G5 hcl
      by_cases e5 : hdV D 1 = 5
      · rw [e5] at b35 ⊢
        by_cases hl : c.length < 1
        · exact nt_n5 w0 w5 w gr w.heap.size g3 id c hR5 b35 b25 hne (Nat.le_refl _) h3 h02 G5 hcl hl
        · exact nt_k5 w0 w5 w gr w.heap.size g3 id c hR5 b35 b25 hne (Nat.le_refl _) h3 h02 G5 hcl hl
      by_cases e6 : hdV D 1 = 6
      · rw [e6] at b35 ⊢
        by_cases hl : c.length < 1
        · exact nt_n6 w0 w5 w gr w.heap.size g3 id c hR5 b35 b25 hne (Nat.le_refl _) h3 h02 G5 hcl hl
        · exact nt_k6 w0 w5 w gr w.heap.size g3 id c hR5 b35 b25 hne (Nat.le_refl _) h3 h02 G5 hcl hl
      exact nt_k0 w0 w5 w gr w.heap.size g3 id (hdV D 1) (by omega) c hR5 b35 b25 hne (Nat.le_refl _) h3 h02 G5 hcl
end Go.Proofs.Ytnimehkfnpepfaa
