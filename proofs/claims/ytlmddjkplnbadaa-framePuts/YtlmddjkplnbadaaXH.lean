import Derived.Test.YtlmddjkplnbadaaXG
import Derived.Test.YtlmddjkplnbadaaPSam
namespace Go.Proofs.Ytlmddjkplnbadaa
open Go.RowKit
set_option maxRecDepth 100000
set_option linter.unusedVariables false
set_option linter.unusedSimpArgs false

set_option maxHeartbeats 16000000 in
theorem puts1_any (gch gb gm nb : Nat) (cr sz ma tu ch : Int) (B : List Nat) (a : Option Addr) (n c : Nat) (Qs : List Qd) (w : World) (hv : BxS w gch 3 #[.int .i64 ch]) (hvb : BxS w gb 22 #[.slice (some ⟨gm, 0, none⟩) nb (nb + 5)]) (hB : Rd w (some ⟨gm, 0, none⟩) nb (nb + 5) B) (h : RdS w a n c Qs) :
    Calls Try.prog 28 #[.agg #[.int .i64 cr, .int .i64 sz, .int .i64 ma, .int .i64 tu, .slice a n c], .pointer (some ⟨gch, 0, none⟩), .pointer (some ⟨gb, 0, none⟩)] w fun e w' => ∃ (a' : Option Addr) (n' c' : Nat) (qs' : List Qw) (ya : Option Addr) (yn yc : Nat), e = .returned (.tuple #[.agg #[.int .i64 (ptX cr sz ma tu Qs cr), .int .i64 (ptX cr sz ma tu Qs sz), .int .i64 (ptX cr sz ma tu Qs ma), .int .i64 (ptX cr sz ma tu Qs tu), .slice a' n' c'], .slice ya yn yc, .int .i64 ((ptE cr sz ma tu Qs ch B) : Int)]) ∧ OwS w' w.heap.size a' n' c' qs' (ptV cr sz ma tu Qs ch B) ∧ (Ans w' w.heap.size ya yn yc [] ∧ ∀ x, Qbl (.slice a' n' c') qs' x → (Value.slice ya yn yc).ownBlock ≠ some x) ∧ w.grownBy w' none := by
  have b0 := BxS.new w 38 #[.int .i64 cr, .int .i64 sz, .int .i64 ma, .int .i64 tu, .slice a n c]
  have g0 := World.grownBy_alloc w (.cells #[.int .i64 cr, .int .i64 sz, .int .i64 ma, .int .i64 tu, .slice a n c] 38) none
  generalize hw0 : w.alloc (.cells #[.int .i64 cr, .int .i64 sz, .int .i64 ma, .int .i64 tu, .slice a n c] 38) = w0 at b0 g0
  have hz0 : w0.heap.size = w.heap.size + 1 := by rw [← hw0]; simp
  have b1 := BxS.new w0 38 #[.int .i64 0, .int .i64 0, .int .i64 0, .int .i64 0, .slice none 0 0]
  have g1 := World.grownBy_alloc w0 (.cells #[.int .i64 0, .int .i64 0, .int .i64 0, .int .i64 0, .slice none 0 0] 38) none
  generalize hw1 : w0.alloc (.cells #[.int .i64 0, .int .i64 0, .int .i64 0, .int .i64 0, .slice none 0 0] 38) = w1 at b1 g1
  rw [hz0] at b1
  have sz1 : w.heap.size + 2 ≤ w1.heap.size := by rw [← hw1]; simp [hz0]
  have p0 := b0.keep g1 (by simp)
  have G1 := grown_trans g0 g1
  have i5 := Try.info_se
  obtain ⟨x0, x1, x2, x3, x4⟩ := BxS.cell5 p0
  have xc : w1.cell? ⟨gch, 0, none⟩ = some (.int .i64 ch) := (hv.keep G1 (by simp)).cell 0 (by show 0 < 1; decide)
  have xb : w1.cell? ⟨gb, 0, none⟩ = some (.slice (some ⟨gm, 0, none⟩) nb (nb + 5)) := (hvb.keep G1 (by simp)).cell 0 (by show 0 < 1; decide)
  have kD := sput_any cr sz ma tu a n c Qs ch _ nb (nb + 5) B w1 (h.keep G1) (hB.keep G1)
  generalize (ptX cr sz ma tu Qs cr) = y0 at *
  generalize (ptX cr sz ma tu Qs sz) = y1 at *
  generalize (ptX cr sz ma tu Qs ma) = y2 at *
  generalize (ptX cr sz ma tu Qs tu) = y3 at *
  generalize (ptV cr sz ma tu Qs ch B) = V at *
  generalize (ptE cr sz ma tu Qs ch B) = Er at *
  have s0 : True := trivial
  go_enter Try.func28, Try.ntmps28
  go_wp2_with (first
    | (go_at_call 29; have _t := s0; clear s0; refine kD.mono ?_; rintro e w2 ⟨a1, n1, c1, k1, rfl, hA, y2'⟩; have z2 := y2'.size; have q1 := b1.keep y2' (by simp); clear x0 x1 x2 x3 x4 xc xb; have bn := BxS.new w2 38 #[.int .i64 0, .int .i64 0, .int .i64 0, .int .i64 0, .slice none 0 0]; have gn := World.grownBy_alloc w2 (.cells #[.int .i64 0, .int .i64 0, .int .i64 0, .int .i64 0, .slice none 0 0] 38) none; have s1 : True := trivial)
    | (have _t := s1; clear s1; refine wpList_stX _ rfl _ (.tmp 7) (.tmp 14) rfl w2.heap.size _ _ rfl rfl bn i5 rfl (by simp [Value.oneCell']) ?_; intro w3 b3 u3; have Y3 := grown_far gn u3 (fun q e => by have e := Option.some.inj e; omega); obtain ⟨x0, x1, x2, x3, x4⟩ := BxS.cell5 b3; have q3 := q1.keep Y3 (by simp); have s2 : True := trivial)
    | (have _t := s2; clear s2; refine wpList_stX _ rfl _ (.tmp 4) (.tmp 16) rfl (w.heap.size + 1) _ _ rfl rfl q3 i5 rfl (by simp [Value.oneCell']) ?_; intro w9 b9 u9))
  refine bodyPost_ret (results_cell3 rfl _ _ _ ⟨w.heap.size + 1, 0, none⟩ _ (.slice none 0 0) (.int .i64 (Er : Int)) rfl (BxS.load (t := 38) b9 Try.underlying38 i5) rfl rfl) rfl ?_
  have hF := (hA.keep Y3).far u9 (by omega)
  have GF := grown_far (grown_trans (grown_trans G1 y2') Y3) u9 (fun q e => by have e := Option.some.inj e; omega)
  exact ⟨_, _, _, _, none, 0, 0, rfl, hF.wide (by omega), ⟨ans_nil _ _, fun x _ e => by simp [Value.ownBlock] at e⟩, GF⟩
theorem pt_fit {cr sz ma tu ch : Int} {Qs : List Qd} {B : List Nat} (hB : B.length ≤ 140737488351232) (f1 : FitQ 140737488351232 Qs) (f2 : ∀ q, q ∈ Qs → q.P.length * 24 ≤ 140737488351232) (n : Nat) (hn : Qs.length = n) (f3 : n * 40 ≤ 140737488351232) :
    FitQ 140737488351232 (ptV cr sz ma tu Qs ch B) ∧ (∀ q, q ∈ (ptV cr sz ma tu Qs ch B) → q.P.length * 24 ≤ 140737488351232) ∧ (ptV cr sz ma tu Qs ch B).length * 40 ≤ 140737488351232 := by
  unfold ptV
  split
  · rename_i hs
    split
    · obtain ⟨_, h2⟩ := seD_ok hs
      have hq : ∀ r, r ∈ (ptQ Qs ch).P → r.length ≤ 140737488351232 := fun r hr => by
        unfold ptQ at hr
        by_cases hl : ch.toNat < Qs.length
        · rw [List.getD_eq_getElem?_getD, List.getElem?_eq_getElem hl] at hr
          exact f1 _ (List.getElem_mem hl) r hr
        · rw [List.getD_eq_getElem?_getD, List.getElem?_eq_none (by omega)] at hr
          cases hr
      have hq2 : (ptQ Qs ch).P.length ≤ 200 := by
        unfold ptQ
        by_cases hl : ch.toNat < Qs.length
        · rw [List.getD_eq_getElem?_getD, List.getElem?_eq_getElem hl]
          exact (h2 _ (List.getElem_mem hl)).1
        · rw [List.getD_eq_getElem?_getD, List.getElem?_eq_none (by omega)]
          decide
      refine ⟨fun q hq' => ?_, fun q hq' => ?_, by rw [List.length_set]; omega⟩
      · rcases List.mem_or_eq_of_mem_set hq' with h | h
        · exact f1 q h
        · rw [h]
          intro r hr
          rcases List.mem_append.1 hr with hr | hr
          · exact hq r hr
          · rw [List.mem_singleton.1 hr]; exact hB
      · rcases List.mem_or_eq_of_mem_set hq' with h | h
        · exact f2 q h
        · rw [h]
          show ((ptQ Qs ch).P ++ [B]).length * 24 ≤ _
          rw [List.length_append]
          show (_ + 1) * 24 ≤ _
          omega
    · exact ⟨f1, f2, by omega⟩
  · exact ⟨(fun k hk => by cases hk), (fun k hk => by cases hk), by decide⟩
theorem below_ofX {w w' : World} (h : w.grownBy w' none) : Below w.heap.size w w' := (Below.refl _ _).grown h (Nat.le_refl _) (fun k hk => by cases hk)
set_option maxHeartbeats 32000000 in
theorem puts_walk (cr sz ma tu ch : Int) (a : Option Addr) (n c : Nat) (Qs : List Qd) (b : Option Addr) (nb cb : Nat) (B : List Nat) (w : World) (h : RdS w a n c Qs) (hb : Rd w b nb cb B) (hnb : nb ≤ 140737488351232) (f1 : FitQ 140737488351232 Qs) (f2 : ∀ q, q ∈ Qs → q.P.length * 24 ≤ 140737488351232) (f3 : n * 40 ≤ 140737488351232) :
    Calls Try.prog 7 #[.agg #[.int .i64 cr, .int .i64 sz, .int .i64 ma, .int .i64 tu, .slice a n c], .int .i64 ch, .slice b nb cb] w fun e w' => e = .returned (.bool true) ∧ Below w.heap.size w w' := by
  have hlB := hb.len
  have b3 := BxS.new w 38 #[.int .i64 cr, .int .i64 sz, .int .i64 ma, .int .i64 tu, .slice a n c]
  have g0 := World.grownBy_alloc w (.cells #[.int .i64 cr, .int .i64 sz, .int .i64 ma, .int .i64 tu, .slice a n c] 38) none
  generalize hw0 : w.alloc (.cells #[.int .i64 cr, .int .i64 sz, .int .i64 ma, .int .i64 tu, .slice a n c] 38) = w0 at b3 g0
  have hz0 : w0.heap.size = w.heap.size + 1 := by rw [← hw0]; simp
  have b4 := BxS.new w0 3 #[.int .i64 ch]
  have g1 := World.grownBy_alloc w0 (.cells #[.int .i64 ch] 3) none
  generalize hw1 : w0.alloc (.cells #[.int .i64 ch] 3) = w1 at b4 g1
  rw [hz0] at b4
  have sz1 : w.heap.size + 2 ≤ w1.heap.size := by rw [← hw1]; simp [hz0]
  have b3 := b3.keep g1 (by simp)
  have G1 := grown_trans g0 g1
  have i5 := Try.info_se
  obtain ⟨x0, x1, x2, x3, x4⟩ := BxS.cell5 b3
  have xc : w1.cell? ⟨w.heap.size + 1, 0, none⟩ = some (.int .i64 ch) := b4.cell 0 (by show 0 < 1; decide)
  have hF := rput_any cr sz ma tu a n c Qs ch b nb cb B w1 (h.keep G1) (hb.keep G1) f1 hnb
  have hC := fun gch gb gm wz za zc hv hvb hcB hz => puts1_any gch gb gm nb cr sz ma tu ch B za n zc Qs wz hv hvb hcB hz
  have kP := fun gm wz (hz : RdS wz a n c Qs) (hcB : Rd wz (some ⟨gm, 0, none⟩) nb (nb + 5) B) => sput_any cr sz ma tu a n c Qs ch _ nb (nb + 5) B wz hz hcB
  obtain ⟨fV1, fV2, fV3⟩ := pt_fit (cr := cr) (sz := sz) (ma := ma) (tu := tu) (ch := ch) (B := B) (by omega) f1 f2 n h.len f3
  have kA := fun gch gb => @senderAs_put gch gb cr sz ma tu (ptX cr sz ma tu Qs cr) (ptX cr sz ma tu Qs sz) (ptX cr sz ma tu Qs ma) (ptX cr sz ma tu Qs tu)
  generalize (ptX cr sz ma tu Qs cr) = y0 at *
  generalize (ptX cr sz ma tu Qs sz) = y1 at *
  generalize (ptX cr sz ma tu Qs ma) = y2 at *
  generalize (ptX cr sz ma tu Qs tu) = y3 at *
  generalize (ptV cr sz ma tu Qs ch B) = V at *
  generalize (ptE cr sz ma tu Qs ch B) = Er at *
  have s0 : True := trivial
  go_enter Try.func7, Try.ntmps7
  go_wp2_with (first
    | (go_at_call 27; have _t := s0; clear s0; refine hF.mono ?_; rintro e w2 ⟨a2, n2, c2, q2, rfl, hV, y2'⟩; have z2 := y2'.size; have b3 := b3.keep y2' (by simp); have b4 := b4.keep y2' (by simp); clear x0 x1 x2 x3 x4 xc; have bn := BxS.new w2 38 #[.int .i64 0, .int .i64 0, .int .i64 0, .int .i64 0, .slice none 0 0]; have gn := World.grownBy_alloc w2 (.cells #[.int .i64 0, .int .i64 0, .int .i64 0, .int .i64 0, .slice none 0 0] 38) none; have s1 : True := trivial)
    | (have _t := s1; clear s1; refine wpList_stX _ rfl _ (.tmp 7) (.tmp 18) rfl w2.heap.size _ _ rfl rfl bn i5 rfl (by simp [Value.oneCell']) ?_; intro w3 b7 u3; have b7l := b7.lt; have Y3 := grown_far gn u3 (fun q e => by have e := Option.some.inj e; omega); have b3 := b3.keep Y3 (by simp); have b4 := b4.keep Y3 (by simp); have hV := hV.keep Y3; have z3 := Y3.size; have hVq : ∀ x, Qbl (.slice a2 n2 c2) q2 x → x < w3.heap.size := (fun x hx => (hV.o.hi hx).1); have G3 := grown_trans (grown_trans G1 y2') Y3; have s2 : True := trivial)
    | (go_at_call 12; have _t := s2; clear s2; refine (roomy_any b nb cb B _ (hb.keep G3) hnb).mono ?_; rintro e w4 ⟨rfl, ⟨D, hR4⟩, y4⟩; have z4 := y4.size; have b3 := b3.keep y4 (by simp); have b4 := b4.keep y4 (by simp); have b7 := b7.keep y4 (by simp); have hV := hV.keep y4; have G4 := grown_trans G3 y4; have bc := BxS.new w4 22 #[.slice (some ⟨w3.heap.size, 0, none⟩) nb (nb + 5)]; have gc := World.grownBy_alloc w4 (.cells #[.slice (some ⟨w3.heap.size, 0, none⟩) nb (nb + 5)] 22) none; generalize hw5 : w4.alloc (.cells #[.slice (some ⟨w3.heap.size, 0, none⟩) nb (nb + 5)] 22) = w5 at *; have b3 := b3.keep gc (by simp); have b4 := b4.keep gc (by simp); have b7 := b7.keep gc (by simp); have hV := hV.keep gc; have G5 := grown_trans G4 gc; have hR5 := hR4.keep gc; have z5 := gc.size; have hm4 : w3.heap.size < w4.heap.size := hR4.blk.lt; obtain ⟨x0, x1, x2, x3, x4⟩ := BxS.cell5 b3; obtain ⟨t0, t1, t2, t3, t4⟩ := BxS.cell5 b7; have xc : w5.cell? ⟨w.heap.size + 1, 0, none⟩ = some (.int .i64 ch) := b4.cell 0 (by show 0 < 1; decide); have x9 : w5.cell? ⟨w4.heap.size, 0, none⟩ = some (.slice (some ⟨w3.heap.size, 0, none⟩) nb (nb + 5)) := bc.cell 0 (by show 0 < 1; decide); have s3 : True := trivial)
    | (go_at_call 30; have _t := s3; clear s3; refine (kA (w.heap.size + 1) w4.heap.size [] none 0 0 Qs V Er a a2 n c n2 c2 w5 (fun wz => BxS wz (w.heap.size + 1) 3 #[.int .i64 ch] ∧ BxS wz w4.heap.size 22 #[.slice (some ⟨w3.heap.size, 0, none⟩) nb (nb + 5)] ∧ Rd wz (some ⟨w3.heap.size, 0, none⟩) nb (nb + 5) B) (fun x y hx g => ⟨hx.1.keep g (by simp), hx.2.1.keep g (by simp), hx.2.2.keep g⟩) ⟨b4, bc, hR5.rd hb.byte hlB hnb⟩ (fun wz za zc hI hz => hC _ _ _ wz za zc hI.1 hI.2.1 hI.2.2 hz) (ans_nil w5 0).rd (fun g off e => by cases e) (by decide) (h.keep G5) hV.rd f1 f2 f3 fV1 fV2 (by rw [← hV.len]; exact fV3)).mono ?_; rintro e w6 ⟨rfl, y6⟩; have z6 := y6.size; clear x0 x1 x2 x3 x4 t0 t1 t2 t3 t4 xc x9; have b3 := b3.keep y6 (by simp); have b4 := b4.keep y6 (by simp); have b7 := b7.keep y6 (by simp); have bc := bc.keep y6 (by simp); have hV := hV.keep y6; have hR6 := hR5.keep y6; have G6 := grown_trans G5 y6; have x9 : w6.cell? ⟨w4.heap.size, 0, none⟩ = some (.slice (some ⟨w3.heap.size, 0, none⟩) nb (nb + 5)) := bc.cell 0 (by show 0 < 1; decide); have s4 : True := trivial)
    | (go_at_call 15; have _t := s4; clear s4; refine (left_any _ b nb cb B D _ hR6 (hb.keep G6) hnb).mono ?_; rintro e w7 ⟨rfl, y7⟩; have z7 := y7.size; clear x9; have b3 := b3.keep y7 (by simp); have b4 := b4.keep y7 (by simp); have b7 := b7.keep y7 (by simp); have bc := bc.keep y7 (by simp); have hV := hV.keep y7; have hR7 := hR6.keep y7; have G7 := grown_trans G6 y7; obtain ⟨x0, x1, x2, x3, x4⟩ := BxS.cell5 b3; have xc : w7.cell? ⟨w.heap.size + 1, 0, none⟩ = some (.int .i64 ch) := b4.cell 0 (by show 0 < 1; decide); have x9 : w7.cell? ⟨w4.heap.size, 0, none⟩ = some (.slice (some ⟨w3.heap.size, 0, none⟩) nb (nb + 5)) := bc.cell 0 (by show 0 < 1; decide); have s5 : True := trivial)
    | (go_at_call 29; have _t := s5; clear s5; refine (kP _ _ (h.keep G7) (hR7.rd hb.byte hlB hnb)).mono ?_; rintro e w8 ⟨a8, n8, c8, q8, rfl, hA, y8⟩; have z8 := y8.size; clear x0 x1 x2 x3 x4 xc x9; have b7 := b7.keep y8 (by simp); have bc := bc.keep y8 (by simp); have hV := hV.keep y8; have hR8 := hR7.keep y8; have G8 := grown_trans G7 y8; clear bn gn; have bn := BxS.new w8 38 #[.int .i64 0, .int .i64 0, .int .i64 0, .int .i64 0, .slice none 0 0]; have gn := World.grownBy_alloc w8 (.cells #[.int .i64 0, .int .i64 0, .int .i64 0, .int .i64 0, .slice none 0 0] 38) none; have s6 : True := trivial)
    | (have _t := s6; clear s6; refine wpList_stX _ rfl _ (.tmp 11) (.tmp 40) rfl w8.heap.size _ _ rfl rfl bn i5 rfl (by simp [Value.oneCell']) ?_; intro w9 b11 u9; have Y9 := grown_far gn u9 (fun q e => by have e := Option.some.inj e; omega); have b7 := b7.keep Y9 (by simp); have bc := bc.keep Y9 (by simp); have hV := hV.keep Y9; have hA := hA.keep Y9; have hR9 := hR8.keep Y9; have G9 := grown_trans G8 Y9; have z9 := Y9.size; have b11l := b11.lt; have x9 : w9.cell? ⟨w4.heap.size, 0, none⟩ = some (.slice (some ⟨w3.heap.size, 0, none⟩) nb (nb + 5)) := bc.cell 0 (by show 0 < 1; decide); have s7 : True := trivial)
    | (go_at_call 31; have _t := s7; clear s7; refine (spoil_any (hR9.ans (lo := 0) hb.byte hlB hnb (Nat.zero_le _)) (by omega)).mono ?_; rintro e w10 ⟨rfl, u10⟩; have u10 : w9.grownBy w10 (some w3.heap.size) := u10; clear x9; have b7 := b7.keep u10 (fun e => by have e := Option.some.inj e; omega); have b11 := b11.keep u10 (fun e => by have e := Option.some.inj e; omega); have hV := hV.fz (Fz.of1 u10) (fun x hx e => by have := hVq x hx; have e : x = w3.heap.size := e; omega); have hA := hA.far u10 (by omega); have G10 := grown_far G9 u10 (fun q e => by have e := Option.some.inj e; omega); obtain ⟨t0, t1, t2, t3, t4⟩ := BxS.cell5 b7; obtain ⟨x0, x1, x2, x3, x4⟩ := BxS.cell5 b11; have s8 : True := trivial)
    | (go_at_call 25; have _t := s8; clear s8; refine (sameSender2_any _ _ _ _ _ _ _ _ _ _ V _ hA.rd hV.rd).mono ?_; rintro e w11 ⟨rfl, y11⟩))
  go_ret
  exact ⟨rfl, below_ofX (grown_trans G10 y11)⟩
end Go.Proofs.Ytlmddjkplnbadaa
