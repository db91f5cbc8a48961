import Derived.Test.YtdpgblojdppfeaaQJ
namespace Go.Proofs.Ytdpgblojdppfeaa
open Go.RowKit
set_option maxRecDepth 100000
set_option linter.unusedVariables false
set_option linter.unusedSimpArgs false
theorem ansN (w : World) (lo : Nat) : Ans w lo none 0 0 [] := ⟨World.ownsRow_nil _ _ _ _, (fun x h => by cases h), fun g h => by simp [Value.ownBlock] at h⟩
theorem OwG.nobox {w : World} {lo g : Nat} {a : Option Addr} {n c : Nat} {ks : List Kw} {R : List Kd} {cs : Array Value} (h : OwG w lo a n c ks R) (b : BxS w g 24 cs) : ¬ Okb (.slice a n c) ks g := by
  rintro (e | ⟨k, hk, e⟩)
  · exact h.o.box b (by decide) e
  · exact (h.o.each k hk).box b (by decide) e
set_option maxHeartbeats 64000000 in
theorem ringAs_drop (gz : Nat) (R V : List Kd) (Er : Nat) (a b : Option Addr) (n c m d : Nat) (w : World) (I : World → Prop) (hI : ∀ x y, I x → x.grownBy y none → I y) (hI0 : I w)
    (hC : ∀ (wz : World) (za : Option Addr) (zc : Nat), I wz → RdG wz za n zc R → Calls Try.prog 15 #[.agg #[.slice za n zc], .pointer (some ⟨gz, 0, none⟩)] wz fun e w' => ∃ (a' : Option Addr) (n' c' : Nat) (ks' : List Kw), e = .returned (.tuple #[.agg #[.slice a' n' c'], .slice none 0 0, .int .i64 0, .int .i64 (Er : Int)]) ∧ OwG w' wz.heap.size a' n' c' ks' V ∧ wz.grownBy w' none)
    (hr : RdG w a n c R) (hw : RdG w b m d V) (fR1 : ∀ k, k ∈ R → k.W.length ≤ 17592186043904) (fR2 : n * 48 ≤ 140737488351232) (fV1 : ∀ k, k ∈ V → k.W.length ≤ 17592186043904) (fV2 : m * 48 ≤ 140737488351232) :
    Calls Try.prog 9 #[.func (.func 15) #[] #[.pointer (some ⟨gz, 0, none⟩)], .agg #[.slice a n c], .agg #[.slice b m d], .slice none 0 0, .int .i64 0, .int .i64 (Er : Int)] w fun e w' => e = .returned (.bool true) ∧ w.grownBy w' none := by
  have b7 := BxS.new w 24 #[.slice a n c]
  have g0 := World.grownBy_alloc w (.cells #[.slice a n c] 24) none
  generalize hw0 : w.alloc (.cells #[.slice a n c] 24) = w0 at b7 g0
  have hz0 : w0.heap.size = w.heap.size + 1 := by rw [← hw0]; simp
  have b8 := BxS.new w0 24 #[.slice b m d]
  have g1 := World.grownBy_alloc w0 (.cells #[.slice b m d] 24) none
  generalize hw1 : w0.alloc (.cells #[.slice b m d] 24) = w1 at b8 g1
  rw [hz0] at b8
  have sz1 : w.heap.size + 2 ≤ w1.heap.size := by rw [← hw1]; simp [hz0]
  have b7 := b7.keep g1 (by simp)
  have G1 := grown_trans g0 g1
  have i1 := Try.info_rg1
  have lV := hw.len
  have kR := fun wz hz => ringOf_any a n c R wz hz (fun k hk => by have := fR1 k hk; omega) (by omega)
  have kW := fun wz hz => ringOf_any b m d V wz hz (fun k hk => by have := fV1 k hk; omega) (by omega)
  have kT := fun wz => twice_any none none none 0 0 0 0 0 0 0 [] wz (ansN wz 0) (ansN wz 0).rd (ansN wz 0).rd (by decide) (fun g off e => by cases e) (fun g off e => by cases e)
  have x7 : w1.cell? ⟨w.heap.size, 0, none⟩ = some (.slice a n c) := b7.cell 0 (by show 0 < 1; decide)
  have x8 : w1.cell? ⟨w.heap.size + 1, 0, none⟩ = some (.slice b m d) := b8.cell 0 (by show 0 < 1; decide)
  have hEr : ((Er : Int) != (Er : Int)) = false := by simp
  have s0 : True := trivial
  go_enter Try.func9, Try.ntmps9
  go_wp2_with (first
    | (go_at_call 11; have _t := s0; clear s0; refine (kR _ (hr.keep G1)).mono ?_; rintro e w2 ⟨ah, ch, kh, rfl, hH, y2⟩; have z2 := y2.size; have b7 := b7.keep y2 (by simp); have b8 := b8.keep y2 (by simp); clear x7 x8; have bn := BxS.new w2 24 #[.slice none 0 0]; have gn := World.grownBy_alloc w2 (.cells #[.slice none 0 0] 24) none; have s1 : True := trivial)
    | (have _t := s1; clear s1; refine wpList_stX _ rfl _ (.tmp 13) (.tmp 24) rfl w2.heap.size _ _ rfl rfl bn i1 rfl (by simp [Value.oneCell']) ?_; intro w3 b13 u13; have Y13 := grown_far gn u13 (fun q e => by have e := Option.some.inj e; omega); have b7 := b7.keep Y13 (by simp); have b8 := b8.keep Y13 (by simp); have l13 := b13.lt; have hH := hH.keep Y13; have hH3q : ∀ x, Okb (.slice ah n ch) kh x → w1.heap.size ≤ x ∧ x < w3.heap.size := fun x hx => (by have := hH.o.hi hx; omega); have G3 := grown_trans (grown_trans G1 y2) Y13; have z3 := Y13.size; have x7 : w3.cell? ⟨w.heap.size, 0, none⟩ = some (.slice a n c) := b7.cell 0 (by show 0 < 1; decide); have x8 : w3.cell? ⟨(w.heap.size + 1), 0, none⟩ = some (.slice b m d) := b8.cell 0 (by show 0 < 1; decide); have x13 : w3.cell? ⟨w2.heap.size, 0, none⟩ = some (.slice ah n ch) := b13.cell 0 (by show 0 < 1; decide); have s2 : True := trivial)
    | (go_at_call 15; have _t := s2; clear s2; refine (hC _ ah ch (hI _ _ hI0 G3) hH.rd).mono ?_; rintro e w4 ⟨a1, n1, c1, k1, rfl, hA, y4⟩; have z4 := y4.size; have b7 := b7.keep y4 (by simp); have b8 := b8.keep y4 (by simp); have b13 := b13.keep y4 (by simp); clear x7 x8 x13; have hH := hH.keep y4; clear bn gn; have bn := BxS.new w4 24 #[.slice none 0 0]; have gn := World.grownBy_alloc w4 (.cells #[.slice none 0 0] 24) none; have s3 : True := trivial)
    | (have _t := s3; clear s3; refine wpList_stX _ rfl _ (.tmp 14) (.tmp 29) rfl w4.heap.size _ _ rfl rfl bn i1 rfl (by simp [Value.oneCell']) ?_; intro w5 b14 u14; have Y14 := grown_far gn u14 (fun q e => by have e := Option.some.inj e; omega); have b7 := b7.keep Y14 (by simp); have b8 := b8.keep Y14 (by simp); have b13 := b13.keep Y14 (by simp); have l14 := b14.lt; have hH := hH.keep Y14; have hA := hA.keep Y14; have hA5q : ∀ x, Okb (.slice a1 n1 c1) k1 x → w3.heap.size ≤ x ∧ x < w5.heap.size := fun x hx => (by have := hA.o.hi hx; omega); have G5 := grown_trans (grown_trans G3 y4) Y14; have z5 := Y14.size; have x7 : w5.cell? ⟨w.heap.size, 0, none⟩ = some (.slice a n c) := b7.cell 0 (by show 0 < 1; decide); have x8 : w5.cell? ⟨(w.heap.size + 1), 0, none⟩ = some (.slice b m d) := b8.cell 0 (by show 0 < 1; decide); have x13 : w5.cell? ⟨w2.heap.size, 0, none⟩ = some (.slice ah n ch) := b13.cell 0 (by show 0 < 1; decide); have x14 : w5.cell? ⟨w4.heap.size, 0, none⟩ = some (.slice a1 n1 c1) := b14.cell 0 (by show 0 < 1; decide); have s4 : True := trivial)
    | (go_at_call 15; have _t := s4; clear s4; refine (hC _ ah ch (hI _ _ hI0 G5) hH.rd).mono ?_; rintro e w6 ⟨a2, n2, c2, k2, rfl, hB, y6⟩; have z6 := y6.size; have b7 := b7.keep y6 (by simp); have b8 := b8.keep y6 (by simp); have b13 := b13.keep y6 (by simp); have b14 := b14.keep y6 (by simp); clear x7 x8 x13 x14; have hH := hH.keep y6; have hA := hA.keep y6; clear bn gn; have bn := BxS.new w6 24 #[.slice none 0 0]; have gn := World.grownBy_alloc w6 (.cells #[.slice none 0 0] 24) none; have s5 : True := trivial)
    | (have _t := s5; clear s5; refine wpList_stX _ rfl _ (.tmp 18) (.tmp 37) rfl w6.heap.size _ _ rfl rfl bn i1 rfl (by simp [Value.oneCell']) ?_; intro w7 b18 u18; have Y18 := grown_far gn u18 (fun q e => by have e := Option.some.inj e; omega); have b7 := b7.keep Y18 (by simp); have b8 := b8.keep Y18 (by simp); have b13 := b13.keep Y18 (by simp); have b14 := b14.keep Y18 (by simp); have l18 := b18.lt; have hH := hH.keep Y18; have hA := hA.keep Y18; have hB := hB.keep Y18; have G7 := grown_trans (grown_trans G5 y6) Y18; have z7 := Y18.size; have x7 : w7.cell? ⟨w.heap.size, 0, none⟩ = some (.slice a n c) := b7.cell 0 (by show 0 < 1; decide); have x8 : w7.cell? ⟨(w.heap.size + 1), 0, none⟩ = some (.slice b m d) := b8.cell 0 (by show 0 < 1; decide); have x13 : w7.cell? ⟨w2.heap.size, 0, none⟩ = some (.slice ah n ch) := b13.cell 0 (by show 0 < 1; decide); have x14 : w7.cell? ⟨w4.heap.size, 0, none⟩ = some (.slice a1 n1 c1) := b14.cell 0 (by show 0 < 1; decide); have x18 : w7.cell? ⟨w6.heap.size, 0, none⟩ = some (.slice a2 n2 c2) := b18.cell 0 (by show 0 < 1; decide); have s6 : True := trivial)
    | (go_at_call 13; have _t := s6; clear s6; refine (sameRing_any _ _ _ _ _ _ V _ hA.rd (hw.keep G7)).mono ?_; rintro e w8 ⟨rfl, e1⟩; have ze1 := e1.size; have b7 := b7.keep e1 (by simp); have b8 := b8.keep e1 (by simp); have b13 := b13.keep e1 (by simp); have b14 := b14.keep e1 (by simp); have b18 := b18.keep e1 (by simp); clear x7 x8 x13 x14 x18; have hH := hH.keep e1; have hA := hA.keep e1; have hB := hB.keep e1; have x7 : w8.cell? ⟨w.heap.size, 0, none⟩ = some (.slice a n c) := b7.cell 0 (by show 0 < 1; decide); have x8 : w8.cell? ⟨(w.heap.size + 1), 0, none⟩ = some (.slice b m d) := b8.cell 0 (by show 0 < 1; decide); have x13 : w8.cell? ⟨w2.heap.size, 0, none⟩ = some (.slice ah n ch) := b13.cell 0 (by show 0 < 1; decide); have x14 : w8.cell? ⟨w4.heap.size, 0, none⟩ = some (.slice a1 n1 c1) := b14.cell 0 (by show 0 < 1; decide); have x18 : w8.cell? ⟨w6.heap.size, 0, none⟩ = some (.slice a2 n2 c2) := b18.cell 0 (by show 0 < 1; decide); have s7 : True := trivial)
    | (go_at_call 13; have _t := s7; clear s7; refine (sameRing_any _ _ _ _ _ _ V _ hB.rd (hw.keep (grown_trans G7 e1))).mono ?_; rintro e w9 ⟨rfl, e2⟩; have ze2 := e2.size; have b7 := b7.keep e2 (by simp); have b8 := b8.keep e2 (by simp); have b13 := b13.keep e2 (by simp); have b14 := b14.keep e2 (by simp); have b18 := b18.keep e2 (by simp); clear x7 x8 x13 x14 x18; have hH := hH.keep e2; have hA := hA.keep e2; have hB := hB.keep e2; have x7 : w9.cell? ⟨w.heap.size, 0, none⟩ = some (.slice a n c) := b7.cell 0 (by show 0 < 1; decide); have x8 : w9.cell? ⟨(w.heap.size + 1), 0, none⟩ = some (.slice b m d) := b8.cell 0 (by show 0 < 1; decide); have x13 : w9.cell? ⟨w2.heap.size, 0, none⟩ = some (.slice ah n ch) := b13.cell 0 (by show 0 < 1; decide); have x14 : w9.cell? ⟨w4.heap.size, 0, none⟩ = some (.slice a1 n1 c1) := b14.cell 0 (by show 0 < 1; decide); have x18 : w9.cell? ⟨w6.heap.size, 0, none⟩ = some (.slice a2 n2 c2) := b18.cell 0 (by show 0 < 1; decide); have s8 : True := trivial)
    | (go_at_call 13; have _t := s8; clear s8; refine (sameRing_any _ _ _ _ _ _ R _ hH.rd (hr.keep (grown_trans (grown_trans G7 e1) e2))).mono ?_; rintro e w10 ⟨rfl, e3⟩; have ze3 := e3.size; have b7 := b7.keep e3 (by simp); have b8 := b8.keep e3 (by simp); have b13 := b13.keep e3 (by simp); have b14 := b14.keep e3 (by simp); have b18 := b18.keep e3 (by simp); clear x7 x8 x13 x14 x18; have hH := hH.keep e3; have hA := hA.keep e3; have hB := hB.keep e3; have x7 : w10.cell? ⟨w.heap.size, 0, none⟩ = some (.slice a n c) := b7.cell 0 (by show 0 < 1; decide); have x8 : w10.cell? ⟨(w.heap.size + 1), 0, none⟩ = some (.slice b m d) := b8.cell 0 (by show 0 < 1; decide); have x13 : w10.cell? ⟨w2.heap.size, 0, none⟩ = some (.slice ah n ch) := b13.cell 0 (by show 0 < 1; decide); have x14 : w10.cell? ⟨w4.heap.size, 0, none⟩ = some (.slice a1 n1 c1) := b14.cell 0 (by show 0 < 1; decide); have x18 : w10.cell? ⟨w6.heap.size, 0, none⟩ = some (.slice a2 n2 c2) := b18.cell 0 (by show 0 < 1; decide); have s9 : True := trivial)
    | (go_at_call 24; have _t := s9; clear s9; refine (kT _).mono ?_; rintro e w11 ⟨rfl, e4⟩; have e4 : w10.grownBy w11 none := e4; have ze4 := e4.size; have b7 := b7.keep e4 (by simp); have b8 := b8.keep e4 (by simp); have b13 := b13.keep e4 (by simp); have b14 := b14.keep e4 (by simp); have b18 := b18.keep e4 (by simp); clear x7 x8 x13 x14 x18; have hH := hH.keep e4; have hA := hA.keep e4; have hB := hB.keep e4; have G11 := grown_trans (grown_trans (grown_trans (grown_trans G7 e1) e2) e3) e4; have x7 : w11.cell? ⟨w.heap.size, 0, none⟩ = some (.slice a n c) := b7.cell 0 (by show 0 < 1; decide); have x8 : w11.cell? ⟨(w.heap.size + 1), 0, none⟩ = some (.slice b m d) := b8.cell 0 (by show 0 < 1; decide); have x13 : w11.cell? ⟨w2.heap.size, 0, none⟩ = some (.slice ah n ch) := b13.cell 0 (by show 0 < 1; decide); have x14 : w11.cell? ⟨w4.heap.size, 0, none⟩ = some (.slice a1 n1 c1) := b14.cell 0 (by show 0 < 1; decide); have x18 : w11.cell? ⟨w6.heap.size, 0, none⟩ = some (.slice a2 n2 c2) := b18.cell 0 (by show 0 < 1; decide); have s10 : True := trivial)
    | (go_at_call 11; have _t := s10; clear s10; refine (kW _ (hw.keep G11)).mono ?_; rintro e w12 ⟨ak, ck, kk, rfl, hK, y12⟩; have z12 := y12.size; have b7 := b7.keep y12 (by simp); have b8 := b8.keep y12 (by simp); have b13 := b13.keep y12 (by simp); have b14 := b14.keep y12 (by simp); have b18 := b18.keep y12 (by simp); clear x7 x8 x13 x14 x18; have hH := hH.keep y12; have hA := hA.keep y12; have hB := hB.keep y12; clear bn gn; have bn := BxS.new w12 24 #[.slice none 0 0]; have gn := World.grownBy_alloc w12 (.cells #[.slice none 0 0] 24) none; have s11 : True := trivial)
    | (have _t := s11; clear s11; refine wpList_stX _ rfl _ (.tmp 22) (.tmp 85) rfl w12.heap.size _ _ rfl rfl bn i1 rfl (by simp [Value.oneCell']) ?_; intro w13 b22 u22; have Y22 := grown_far gn u22 (fun q e => by have e := Option.some.inj e; omega); have b7 := b7.keep Y22 (by simp); have b8 := b8.keep Y22 (by simp); have b13 := b13.keep Y22 (by simp); have b14 := b14.keep Y22 (by simp); have b18 := b18.keep Y22 (by simp); have l22 := b22.lt; have hH := hH.keep Y22; have hA := hA.keep Y22; have hB := hB.keep Y22; have hK := hK.keep Y22; have G13 := grown_trans (grown_trans G11 y12) Y22; have z13 := Y22.size; have x7 : w13.cell? ⟨w.heap.size, 0, none⟩ = some (.slice a n c) := b7.cell 0 (by show 0 < 1; decide); have x8 : w13.cell? ⟨(w.heap.size + 1), 0, none⟩ = some (.slice b m d) := b8.cell 0 (by show 0 < 1; decide); have x13 : w13.cell? ⟨w2.heap.size, 0, none⟩ = some (.slice ah n ch) := b13.cell 0 (by show 0 < 1; decide); have x14 : w13.cell? ⟨w4.heap.size, 0, none⟩ = some (.slice a1 n1 c1) := b14.cell 0 (by show 0 < 1; decide); have x18 : w13.cell? ⟨w6.heap.size, 0, none⟩ = some (.slice a2 n2 c2) := b18.cell 0 (by show 0 < 1; decide); have x22 : w13.cell? ⟨w12.heap.size, 0, none⟩ = some (.slice ak m ck) := b22.cell 0 (by show 0 < 1; decide); have s12 : True := trivial)
    | (go_at_call 25; have _t := s12; clear s12; have hAq : ∀ x, Okb (.slice a1 n1 c1) k1 x → w3.heap.size ≤ x ∧ x < w5.heap.size := hA5q; have hHq : ∀ x, Okb (.slice ah n ch) kh x → w1.heap.size ≤ x ∧ x < w3.heap.size := hH3q; refine (overRing_any a1 n1 c1 _ k1 V _ hA fV1 (by have := hA.rd.len; omega)).mono ?_; rintro e w14 ⟨rfl, F1⟩; have b7 := b7.fz F1 (hA.nobox b7); have b8 := b8.fz F1 (hA.nobox b8); have b13 := b13.fz F1 (hA.nobox b13); have b14 := b14.fz F1 (hA.nobox b14); have b18 := b18.fz F1 (hA.nobox b18); have b22 := b22.fz F1 (hA.nobox b22); clear x7 x8 x13 x14 x18 x22; have hB := hB.fz F1 (fun x hx hy => by have p1 := hB.o.hi hx; have p2 := hAq x hy; omega); have hK := hK.fz F1 (fun x hx hy => by have p1 := hK.o.hi hx; have p2 := hAq x hy; omega); have hH := hH.fz F1 (fun x hx hy => by have p1 := hH.o.hi hx; have p2 := hAq x hy; have p3 := hHq x hx; omega); have x7 : w14.cell? ⟨w.heap.size, 0, none⟩ = some (.slice a n c) := b7.cell 0 (by show 0 < 1; decide); have x8 : w14.cell? ⟨(w.heap.size + 1), 0, none⟩ = some (.slice b m d) := b8.cell 0 (by show 0 < 1; decide); have x13 : w14.cell? ⟨w2.heap.size, 0, none⟩ = some (.slice ah n ch) := b13.cell 0 (by show 0 < 1; decide); have x14 : w14.cell? ⟨w4.heap.size, 0, none⟩ = some (.slice a1 n1 c1) := b14.cell 0 (by show 0 < 1; decide); have x18 : w14.cell? ⟨w6.heap.size, 0, none⟩ = some (.slice a2 n2 c2) := b18.cell 0 (by show 0 < 1; decide); have x22 : w14.cell? ⟨w12.heap.size, 0, none⟩ = some (.slice ak m ck) := b22.cell 0 (by show 0 < 1; decide); have s13 : True := trivial)
    | (go_at_call 25; have _t := s13; clear s13; refine (overRing_any ah n ch _ kh R _ hH fR1 (by omega)).mono ?_; rintro e w15 ⟨rfl, F2⟩; have b7 := b7.fz F2 (hH.nobox b7); have b8 := b8.fz F2 (hH.nobox b8); have b13 := b13.fz F2 (hH.nobox b13); have b14 := b14.fz F2 (hH.nobox b14); have b18 := b18.fz F2 (hH.nobox b18); have b22 := b22.fz F2 (hH.nobox b22); clear x7 x8 x13 x14 x18 x22; have hB := hB.fz F2 (fun x hx hy => by have p1 := hB.o.hi hx; have p2 := hHq x hy; omega); have hK := hK.fz F2 (fun x hx hy => by have p1 := hK.o.hi hx; have p2 := hHq x hy; omega); have x7 : w15.cell? ⟨w.heap.size, 0, none⟩ = some (.slice a n c) := b7.cell 0 (by show 0 < 1; decide); have x8 : w15.cell? ⟨(w.heap.size + 1), 0, none⟩ = some (.slice b m d) := b8.cell 0 (by show 0 < 1; decide); have x13 : w15.cell? ⟨w2.heap.size, 0, none⟩ = some (.slice ah n ch) := b13.cell 0 (by show 0 < 1; decide); have x14 : w15.cell? ⟨w4.heap.size, 0, none⟩ = some (.slice a1 n1 c1) := b14.cell 0 (by show 0 < 1; decide); have x18 : w15.cell? ⟨w6.heap.size, 0, none⟩ = some (.slice a2 n2 c2) := b18.cell 0 (by show 0 < 1; decide); have x22 : w15.cell? ⟨w12.heap.size, 0, none⟩ = some (.slice ak m ck) := b22.cell 0 (by show 0 < 1; decide); have s14 : True := trivial)
    | (go_at_call 13; have _t := s14; clear s14; refine (sameRing_any _ _ _ _ _ _ V _ hB.rd hK.rd).mono ?_; rintro e w16 ⟨rfl, y16⟩))
  go_ret
  exact ⟨rfl, grown_trans (Fz.grown (Fz.grown G13 F1 (fun i h => by have := hA5q i h; omega)) F2 (fun i h => by have := hH3q i h; omega)) y16⟩

set_option maxHeartbeats 16000000 in
theorem drops1_any (gz : Nat) (z : Int) (a : Option Addr) (n c : Nat) (R : List Kd) (w : World) (hv : BxS w gz 3 #[.int .i64 z]) (h : RdG w a n c R) :
    Calls Try.prog 15 #[.agg #[.slice a n c], .pointer (some ⟨gz, 0, none⟩)] w fun e w' => ∃ (a' : Option Addr) (n' c' : Nat) (ks' : List Kw), e = .returned (.tuple #[.agg #[.slice a' n' c'], .slice none 0 0, .int .i64 0, .int .i64 (drE R z : Int)]) ∧ OwG w' w.heap.size a' n' c' ks' (drV R z) ∧ w.grownBy w' none := by
  have b0 := BxS.new w 24 #[.slice a n c]
  have g0 := World.grownBy_alloc w (.cells #[.slice a n c] 24) none
  generalize hw0 : w.alloc (.cells #[.slice a n c] 24) = w0 at b0 g0
  have hz0 : w0.heap.size = w.heap.size + 1 := by rw [← hw0]; simp
  have b1 := BxS.new w0 24 #[.slice none 0 0]
  have g1 := World.grownBy_alloc w0 (.cells #[.slice none 0 0] 24) none
  generalize hw1 : w0.alloc (.cells #[.slice none 0 0] 24) = w1 at b1 g1
  rw [hz0] at b1
  have sz1 : w.heap.size + 2 ≤ w1.heap.size := by rw [← hw1]; simp [hz0]
  have p0 := b0.keep g1 (by simp)
  have G1 := grown_trans g0 g1
  have i1 := Try.info_rg1
  have x0 : w1.cell? ⟨w.heap.size, 0, none⟩ = some (.slice a n c) := p0.cell 0 (by show 0 < 1; decide)
  have xz : w1.cell? ⟨gz, 0, none⟩ = some (.int .i64 z) := (hv.keep G1 (by simp)).cell 0 (by show 0 < 1; decide)
  have kD := drop_any a n c R z w1 (h.keep G1)
  generalize drV R z = V at *
  generalize drE R z = Er at *
  have s0 : True := trivial
  go_enter Try.func15, Try.ntmps15
  go_wp2_with (first
    | (go_at_call 16; have _t := s0; clear s0; refine kD.mono ?_; rintro e w2 ⟨a1, n1, c1, k1, rfl, hA, y2⟩; have z2 := y2.size; have q1 := b1.keep y2 (by simp); have bn := BxS.new w2 24 #[.slice none 0 0]; have gn := World.grownBy_alloc w2 (.cells #[.slice none 0 0] 24) none; clear x0 xz; have s1 : True := trivial)
    | (have _t := s1; clear s1; refine wpList_stX _ rfl _ (.tmp 7) (.tmp 13) rfl w2.heap.size _ _ rfl rfl bn i1 rfl (by simp [Value.oneCell']) ?_; intro w3 b3 u3; have Y3 := grown_far gn u3 (fun q e => by have e := Option.some.inj e; omega); have x3 : w3.cell? ⟨w2.heap.size, 0, none⟩ = some (.slice a1 n1 c1) := b3.cell 0 (by show 0 < 1; decide); have q3 := q1.keep Y3 (by simp); have s2 : True := trivial)
    | (have _t := s2; clear s2; refine wpList_stX _ rfl _ (.tmp 3) (.tmp 15) rfl (w.heap.size + 1) _ _ rfl rfl q3 i1 rfl (by simp [Value.oneCell']) ?_; intro w9 b9 u9))
  refine bodyPost_ret (results_cell4 rfl _ _ _ ⟨w.heap.size + 1, 0, none⟩ _ (.slice none 0 0) (.int .i64 0) (.int .i64 (Er : Int)) rfl (BxS.load (t := 24) b9 Try.underlying24 i1) rfl rfl rfl) rfl ?_
  have hF := (hA.keep Y3).far u9 (by omega)
  have GF := grown_far (grown_trans (grown_trans G1 y2) Y3) u9 (fun q e => by have e := Option.some.inj e; omega)
  first | exact ⟨_, _, _, _, rfl, hF.wide (by omega), GF⟩ | exact ⟨_, _, _, rfl, ⟨_, hF.wide (by omega)⟩, GF⟩
theorem dr_fit {R : List Kd} {z : Int} (f1 : ∀ k, k ∈ R → k.W.length ≤ 17592186043904) (n : Nat) (hn : n = R.length) (f2 : n * 48 ≤ 140737488351232) : (∀ k, k ∈ drV R z → k.W.length ≤ 17592186043904) ∧ (drV R z).length * 48 ≤ 140737488351232 := by
  unfold drV
  split
  · split
    · refine ⟨fun k hk => f1 k (List.mem_of_mem_eraseIdx hk), ?_⟩
      have := List.length_eraseIdx_le R (fiN R z)
      omega
    · exact ⟨f1, by omega⟩
  · exact ⟨(fun k hk => by cases hk), by decide⟩
set_option maxHeartbeats 16000000 in
theorem drops_walk (a : Option Addr) (n c : Nat) (R : List Kd) (z : Int) (w : World) (h : RdG w a n c R) (f1 : ∀ k, k ∈ R → k.W.length ≤ 17592186043904) (f2 : n * 48 ≤ 140737488351232) :
    Calls Try.prog 4 #[.agg #[.slice a n c], .int .i64 z] w fun e w' => e = .returned (.bool true) ∧ Below w.heap.size w w' := by
  have b0 := BxS.new w 24 #[.slice a n c]
  have g0 := World.grownBy_alloc w (.cells #[.slice a n c] 24) none
  generalize hw0 : w.alloc (.cells #[.slice a n c] 24) = w0 at b0 g0
  have hz0 : w0.heap.size = w.heap.size + 1 := by rw [← hw0]; simp
  have b1 := BxS.new w0 3 #[.int .i64 z]
  have g1 := World.grownBy_alloc w0 (.cells #[.int .i64 z] 3) none
  generalize hw1 : w0.alloc (.cells #[.int .i64 z] 3) = w1 at b1 g1
  rw [hz0] at b1
  have p0 := b0.keep g1 (by simp)
  have G1 := grown_trans g0 g1
  have i1 := Try.info_rg1
  have x0 : w1.cell? ⟨w.heap.size, 0, none⟩ = some (.slice a n c) := p0.cell 0 (by show 0 < 1; decide)
  have x1 : w1.cell? ⟨w.heap.size + 1, 0, none⟩ = some (.int .i64 z) := b1.cell 0 (by show 0 < 1; decide)
  have hF := rdrop_any a n c R z w1 (h.keep G1)
  have hC := fun gz wz za zc (hv : BxS wz gz 3 #[.int .i64 z]) (hz : RdG wz za n zc R) => drops1_any gz z za n zc R wz hv hz
  obtain ⟨fV1, fV2⟩ := dr_fit (z := z) f1 n h.len.symm f2
  generalize drV R z = V at *
  generalize drE R z = Er at *
  have s0 : True := trivial
  go_enter Try.func4, Try.ntmps4
  go_wp2_with (first
    | (go_at_call 14; have _t := s0; clear s0; refine hF.mono ?_; rintro e w2 ⟨a1, n1, c1, rfl, hA, y2⟩; have z2 := y2.size; have q0 := p0.keep y2 (by simp); have q1 := b1.keep y2 (by simp); have bn := BxS.new w2 24 #[.slice none 0 0]; have gn := World.grownBy_alloc w2 (.cells #[.slice none 0 0] 24) none; clear x0 x1; have s1 : True := trivial)
    | (have _t := s1; clear s1; refine wpList_stX _ rfl _ (.tmp 5) (.tmp 12) rfl w2.heap.size _ _ rfl rfl bn i1 rfl (by simp [Value.oneCell']) ?_; intro w3 b3 u3; have Y3 := grown_far gn u3 (fun q e => by have e := Option.some.inj e; omega); have x3 : w3.cell? ⟨w2.heap.size, 0, none⟩ = some (.slice a1 n1 c1) := b3.cell 0 (by show 0 < 1; decide); have q03 := q0.keep Y3 (by simp); have q13 := q1.keep Y3 (by simp); have x0 : w3.cell? ⟨w.heap.size, 0, none⟩ = some (.slice a n c) := q03.cell 0 (by show 0 < 1; decide); have s2 : True := trivial)
    | (go_at_call 9; have _t := s2; clear s2; have lV := hA.len; refine (ringAs_drop (w.heap.size + 1) R V Er a a1 n c n1 c1 w3 (fun wx => BxS wx (w.heap.size + 1) 3 #[.int .i64 z]) (fun x y hx hg => hx.keep hg (by simp)) q13 (fun wz za zc hv hz => hC _ wz za zc hv hz) (h.keep (grown_trans (grown_trans G1 y2) Y3)) (hA.keep Y3) f1 f2 fV1 (by omega)).mono ?_; rintro e w9 ⟨rfl, y9⟩))
  go_ret
  exact ⟨rfl, (Below.refl _ _).grown (grown_trans (grown_trans (grown_trans G1 y2) Y3) y9) (Nat.le_refl _) (fun k hk => by cases hk)⟩

end Go.Proofs.Ytdpgblojdppfeaa
