import Derived.Test.YtdpgblojdppfeaaQK
import Derived.Test.YtdpgblojdppfeaaQM
namespace Go.Proofs.Ytdpgblojdppfeaa
open Go.RowKit
set_option maxRecDepth 100000
set_option linter.unusedVariables false
set_option linter.unusedSimpArgs false
theorem wpAnyZ_twoB {P : Program} {ops : Array Oper} {Q : Exit → Act → World → Prop} {md : Region.Mode} {S : World → Prop} {Z : List Nat} (i j : Nat) {o o' : Oper} {fuel : Nat} {listed : Array Bool} {a : Act} {w : World} (ho : ops[i]? = some o) (ho' : ops[j]? = some o') (hr : (Region.ready md ops listed == [i, j]) = true)
    (h : ∀ K' : Act → World → Prop, (∀ a w, (i ∉ Z → S w) → wpAnyZ P md ops Q S Z fuel (listed.setIfInBounds i true) a w → K' a w) → if Region.wanted o (yielded ops a.tmps) = true then Oper.wp P o a w K' Q else K' (a.put o.dst undef) w)
    (h' : ∀ K' : Act → World → Prop, (∀ a w, (j ∉ Z → S w) → wpAnyZ P md ops Q S Z fuel (listed.setIfInBounds j true) a w → K' a w) → if Region.wanted o' (yielded ops a.tmps) = true then Oper.wp P o' a w K' Q else K' (a.put o'.dst undef) w) :
    wpAnyZ P md ops Q S Z (fuel + 1) listed a w := by
  have hr := eq_of_beq hr
  refine ⟨fun h0 => (by rw [hr] at h0; cases h0), fun k hk => ?_⟩
  rw [hr] at hk
  rcases List.mem_cons.1 hk with e | hk
  · subst e
    exact wpOp_step ho (fun K' hK => h K' (fun a w hS hW => hK a w ⟨hS, hW⟩))
  · have e := List.mem_singleton.1 hk
    subst e
    exact wpOp_step ho' (fun K' hK => h' K' (fun a w hS hW => hK a w ⟨hS, hW⟩))
set_option maxHeartbeats 16000000 in
theorem adds1_any (gz : Nat) (kk : Kw) (a : Option Addr) (n c : Nat) (R : List Kd) (w : World) (hv : BxS w gz 27 #[.int .i64 kk.id, .slice kk.a kk.n kk.c, .int .i64 kk.tp, .int .i64 kk.sn] ∧ RdI w kk.a kk.n kk.c kk.W) (hbd : I64 kk.id ∧ I64 kk.tp ∧ I64 kk.sn) (h : RdG w a n c R) :
    Calls Try.prog 7 #[.agg #[.slice a n c], .pointer (some ⟨gz, 0, none⟩)] w fun e w' => ∃ (a' : Option Addr) (n' c' : Nat) (ks' : List Kw), e = .returned (.tuple #[.agg #[.slice a' n' c'], .slice none 0 0, .int .i64 0, .int .i64 (adE R kk.d : Int)]) ∧ OwG w' w.heap.size a' n' c' ks' (adV R kk.d) ∧ w.grownBy w' none := by
  have b0 := BxS.new w 24 #[.slice a n c]
  have g0 := World.grownBy_alloc w (.cells #[.slice a n c] 24) none
  generalize hw0 : w.alloc (.cells #[.slice a n c] 24) = w0 at b0 g0
  have hz0 : w0.heap.size = w.heap.size + 1 := by rw [← hw0]; simp
  have b1 := BxS.new w0 24 #[.slice none 0 0]
  have g1 := World.grownBy_alloc w0 (.cells #[.slice none 0 0] 24) none
  generalize hw1 : w0.alloc (.cells #[.slice none 0 0] 24) = w1 at b1 g1
  rw [hz0] at b1
  have sz1 : w.heap.size + 2 ≤ w1.heap.size := by rw [← hw1]; simp [hz0]
  have p0 := b0.keep g1 (by simp)
  have G1 := grown_trans g0 g1
  have i1 := Try.info_rg1
  have x0 : w1.cell? ⟨w.heap.size, 0, none⟩ = some (.slice a n c) := p0.cell 0 (by show 0 < 1; decide)
  obtain ⟨t0, t1, t2, t3⟩ := BxS.cell4 (hv.1.keep G1 (by simp))
  have kD := add_any a n c R kk w1 (h.keep G1) (hv.2.keep G1) hbd
  generalize adV R kk.d = V at *
  generalize adE R kk.d = Er at *
  have s0 : True := trivial
  go_enter Try.func7, Try.ntmps7
  go_wp2_with (first
    | (go_at_call 8; have _t := s0; clear s0; refine kD.mono ?_; rintro e w2 ⟨a1, n1, c1, k1, rfl, hA, y2⟩; have z2 := y2.size; have q1 := b1.keep y2 (by simp); have bn := BxS.new w2 24 #[.slice none 0 0]; have gn := World.grownBy_alloc w2 (.cells #[.slice none 0 0] 24) none; clear x0 t0 t1 t2 t3; have s1 : True := trivial)
    | (have _t := s1; clear s1; refine wpList_stX _ rfl _ (.tmp 7) (.tmp 13) rfl w2.heap.size _ _ rfl rfl bn i1 rfl (by simp [Value.oneCell']) ?_; intro w3 b3 u3; have Y3 := grown_far gn u3 (fun q e => by have e := Option.some.inj e; omega); have x3 : w3.cell? ⟨w2.heap.size, 0, none⟩ = some (.slice a1 n1 c1) := b3.cell 0 (by show 0 < 1; decide); have q3 := q1.keep Y3 (by simp); have s2 : True := trivial)
    | (have _t := s2; clear s2; refine wpList_stX _ rfl _ (.tmp 3) (.tmp 15) rfl (w.heap.size + 1) _ _ rfl rfl q3 i1 rfl (by simp [Value.oneCell']) ?_; intro w9 b9 u9))
  refine bodyPost_ret (results_cell4 rfl _ _ _ ⟨w.heap.size + 1, 0, none⟩ _ (.slice none 0 0) (.int .i64 0) (.int .i64 (Er : Int)) rfl (BxS.load (t := 24) b9 Try.underlying24 i1) rfl rfl rfl) rfl ?_
  have hF := (hA.keep Y3).far u9 (by omega)
  have GF := grown_far (grown_trans (grown_trans G1 y2) Y3) u9 (fun q e => by have e := Option.some.inj e; omega)
  first | exact ⟨_, _, _, _, rfl, hF.wide (by omega), GF⟩ | exact ⟨_, _, _, rfl, ⟨_, hF.wide (by omega)⟩, GF⟩
set_option maxHeartbeats 64000000 in
theorem ringAs_add (gz : Nat) (R V : List Kd) (Er : Nat) (a b : Option Addr) (n c m d : Nat) (w : World) (I : World → Prop) (hI : ∀ x y, I x → x.grownBy y none → I y) (hI0 : I w)
    (hC : ∀ (wz : World) (za : Option Addr) (zc : Nat), I wz → RdG wz za n zc R → Calls Try.prog 7 #[.agg #[.slice za n zc], .pointer (some ⟨gz, 0, none⟩)] wz fun e w' => ∃ (a' : Option Addr) (n' c' : Nat) (ks' : List Kw), e = .returned (.tuple #[.agg #[.slice a' n' c'], .slice none 0 0, .int .i64 0, .int .i64 (Er : Int)]) ∧ OwG w' wz.heap.size a' n' c' ks' V ∧ wz.grownBy w' none)
    (hr : RdG w a n c R) (hw : RdG w b m d V) (fR1 : ∀ k, k ∈ R → k.W.length ≤ 17592186043904) (fR2 : n * 48 ≤ 140737488351232) (fV1 : ∀ k, k ∈ V → k.W.length ≤ 17592186043904) (fV2 : m * 48 ≤ 140737488351232) :
    Calls Try.prog 9 #[.func (.func 7) #[] #[.pointer (some ⟨gz, 0, none⟩)], .agg #[.slice a n c], .agg #[.slice b m d], .slice none 0 0, .int .i64 0, .int .i64 (Er : Int)] w fun e w' => e = .returned (.bool true) ∧ w.grownBy w' none := by
  have b7 := BxS.new w 24 #[.slice a n c]
  have g0 := World.grownBy_alloc w (.cells #[.slice a n c] 24) none
  generalize hw0 : w.alloc (.cells #[.slice a n c] 24) = w0 at b7 g0
  have hz0 : w0.heap.size = w.heap.size + 1 := by rw [← hw0]; simp
  have b8 := BxS.new w0 24 #[.slice b m d]
  have g1 := World.grownBy_alloc w0 (.cells #[.slice b m d] 24) none
  generalize hw1 : w0.alloc (.cells #[.slice b m d] 24) = w1 at b8 g1
  rw [hz0] at b8
  have sz1 : w.heap.size + 2 ≤ w1.heap.size := by rw [← hw1]; simp [hz0]
  have b7 := b7.keep g1 (by simp)
  have G1 := grown_trans g0 g1
  have i1 := Try.info_rg1
  have lV := hw.len
  have kR := fun wz hz => ringOf_any a n c R wz hz (fun k hk => by have := fR1 k hk; omega) (by omega)
  have kW := fun wz hz => ringOf_any b m d V wz hz (fun k hk => by have := fV1 k hk; omega) (by omega)
  have kT := fun wz => twice_any none none none 0 0 0 0 0 0 0 [] wz (ansN wz 0) (ansN wz 0).rd (ansN wz 0).rd (by decide) (fun g off e => by cases e) (fun g off e => by cases e)
  have x7 : w1.cell? ⟨w.heap.size, 0, none⟩ = some (.slice a n c) := b7.cell 0 (by show 0 < 1; decide)
  have x8 : w1.cell? ⟨w.heap.size + 1, 0, none⟩ = some (.slice b m d) := b8.cell 0 (by show 0 < 1; decide)
  have hEr : ((Er : Int) != (Er : Int)) = false := by simp
  have s0 : True := trivial
  go_enter Try.func9, Try.ntmps9
  go_wp2_with (first
    | (go_at_call 11; have _t := s0; clear s0; refine (kR _ (hr.keep G1)).mono ?_; rintro e w2 ⟨ah, ch, kh, rfl, hH, y2⟩; have z2 := y2.size; have b7 := b7.keep y2 (by simp); have b8 := b8.keep y2 (by simp); clear x7 x8; have bn := BxS.new w2 24 #[.slice none 0 0]; have gn := World.grownBy_alloc w2 (.cells #[.slice none 0 0] 24) none; have s1 : True := trivial)
    | (have _t := s1; clear s1; refine wpList_stX _ rfl _ (.tmp 13) (.tmp 24) rfl w2.heap.size _ _ rfl rfl bn i1 rfl (by simp [Value.oneCell']) ?_; intro w3 b13 u13; have Y13 := grown_far gn u13 (fun q e => by have e := Option.some.inj e; omega); have b7 := b7.keep Y13 (by simp); have b8 := b8.keep Y13 (by simp); have l13 := b13.lt; have hH := hH.keep Y13; have hH3q : ∀ x, Okb (.slice ah n ch) kh x → w1.heap.size ≤ x ∧ x < w3.heap.size := fun x hx => (by have := hH.o.hi hx; omega); have G3 := grown_trans (grown_trans G1 y2) Y13; have z3 := Y13.size; have x7 : w3.cell? ⟨w.heap.size, 0, none⟩ = some (.slice a n c) := b7.cell 0 (by show 0 < 1; decide); have x8 : w3.cell? ⟨(w.heap.size + 1), 0, none⟩ = some (.slice b m d) := b8.cell 0 (by show 0 < 1; decide); have x13 : w3.cell? ⟨w2.heap.size, 0, none⟩ = some (.slice ah n ch) := b13.cell 0 (by show 0 < 1; decide); have s2 : True := trivial)
    | (go_at_call 7; have _t := s2; clear s2; refine (hC _ ah ch (hI _ _ hI0 G3) hH.rd).mono ?_; rintro e w4 ⟨a1, n1, c1, k1, rfl, hA, y4⟩; have z4 := y4.size; have b7 := b7.keep y4 (by simp); have b8 := b8.keep y4 (by simp); have b13 := b13.keep y4 (by simp); clear x7 x8 x13; have hH := hH.keep y4; clear bn gn; have bn := BxS.new w4 24 #[.slice none 0 0]; have gn := World.grownBy_alloc w4 (.cells #[.slice none 0 0] 24) none; have s3 : True := trivial)
    | (have _t := s3; clear s3; refine wpList_stX _ rfl _ (.tmp 14) (.tmp 29) rfl w4.heap.size _ _ rfl rfl bn i1 rfl (by simp [Value.oneCell']) ?_; intro w5 b14 u14; have Y14 := grown_far gn u14 (fun q e => by have e := Option.some.inj e; omega); have b7 := b7.keep Y14 (by simp); have b8 := b8.keep Y14 (by simp); have b13 := b13.keep Y14 (by simp); have l14 := b14.lt; have hH := hH.keep Y14; have hA := hA.keep Y14; have hA5q : ∀ x, Okb (.slice a1 n1 c1) k1 x → w3.heap.size ≤ x ∧ x < w5.heap.size := fun x hx => (by have := hA.o.hi hx; omega); have G5 := grown_trans (grown_trans G3 y4) Y14; have z5 := Y14.size; have x7 : w5.cell? ⟨w.heap.size, 0, none⟩ = some (.slice a n c) := b7.cell 0 (by show 0 < 1; decide); have x8 : w5.cell? ⟨(w.heap.size + 1), 0, none⟩ = some (.slice b m d) := b8.cell 0 (by show 0 < 1; decide); have x13 : w5.cell? ⟨w2.heap.size, 0, none⟩ = some (.slice ah n ch) := b13.cell 0 (by show 0 < 1; decide); have x14 : w5.cell? ⟨w4.heap.size, 0, none⟩ = some (.slice a1 n1 c1) := b14.cell 0 (by show 0 < 1; decide); have s4 : True := trivial)
    | (go_at_call 7; have _t := s4; clear s4; refine (hC _ ah ch (hI _ _ hI0 G5) hH.rd).mono ?_; rintro e w6 ⟨a2, n2, c2, k2, rfl, hB, y6⟩; have z6 := y6.size; have b7 := b7.keep y6 (by simp); have b8 := b8.keep y6 (by simp); have b13 := b13.keep y6 (by simp); have b14 := b14.keep y6 (by simp); clear x7 x8 x13 x14; have hH := hH.keep y6; have hA := hA.keep y6; clear bn gn; have bn := BxS.new w6 24 #[.slice none 0 0]; have gn := World.grownBy_alloc w6 (.cells #[.slice none 0 0] 24) none; have s5 : True := trivial)
    | (have _t := s5; clear s5; refine wpList_stX _ rfl _ (.tmp 18) (.tmp 37) rfl w6.heap.size _ _ rfl rfl bn i1 rfl (by simp [Value.oneCell']) ?_; intro w7 b18 u18; have Y18 := grown_far gn u18 (fun q e => by have e := Option.some.inj e; omega); have b7 := b7.keep Y18 (by simp); have b8 := b8.keep Y18 (by simp); have b13 := b13.keep Y18 (by simp); have b14 := b14.keep Y18 (by simp); have l18 := b18.lt; have hH := hH.keep Y18; have hA := hA.keep Y18; have hB := hB.keep Y18; have G7 := grown_trans (grown_trans G5 y6) Y18; have z7 := Y18.size; have x7 : w7.cell? ⟨w.heap.size, 0, none⟩ = some (.slice a n c) := b7.cell 0 (by show 0 < 1; decide); have x8 : w7.cell? ⟨(w.heap.size + 1), 0, none⟩ = some (.slice b m d) := b8.cell 0 (by show 0 < 1; decide); have x13 : w7.cell? ⟨w2.heap.size, 0, none⟩ = some (.slice ah n ch) := b13.cell 0 (by show 0 < 1; decide); have x14 : w7.cell? ⟨w4.heap.size, 0, none⟩ = some (.slice a1 n1 c1) := b14.cell 0 (by show 0 < 1; decide); have x18 : w7.cell? ⟨w6.heap.size, 0, none⟩ = some (.slice a2 n2 c2) := b18.cell 0 (by show 0 < 1; decide); have s6 : True := trivial)
    | (go_at_call 13; have _t := s6; clear s6; refine (sameRing_any _ _ _ _ _ _ V _ hA.rd (hw.keep G7)).mono ?_; rintro e w8 ⟨rfl, e1⟩; have ze1 := e1.size; have b7 := b7.keep e1 (by simp); have b8 := b8.keep e1 (by simp); have b13 := b13.keep e1 (by simp); have b14 := b14.keep e1 (by simp); have b18 := b18.keep e1 (by simp); clear x7 x8 x13 x14 x18; have hH := hH.keep e1; have hA := hA.keep e1; have hB := hB.keep e1; have x7 : w8.cell? ⟨w.heap.size, 0, none⟩ = some (.slice a n c) := b7.cell 0 (by show 0 < 1; decide); have x8 : w8.cell? ⟨(w.heap.size + 1), 0, none⟩ = some (.slice b m d) := b8.cell 0 (by show 0 < 1; decide); have x13 : w8.cell? ⟨w2.heap.size, 0, none⟩ = some (.slice ah n ch) := b13.cell 0 (by show 0 < 1; decide); have x14 : w8.cell? ⟨w4.heap.size, 0, none⟩ = some (.slice a1 n1 c1) := b14.cell 0 (by show 0 < 1; decide); have x18 : w8.cell? ⟨w6.heap.size, 0, none⟩ = some (.slice a2 n2 c2) := b18.cell 0 (by show 0 < 1; decide); have s7 : True := trivial)
    | (go_at_call 13; have _t := s7; clear s7; refine (sameRing_any _ _ _ _ _ _ V _ hB.rd (hw.keep (grown_trans G7 e1))).mono ?_; rintro e w9 ⟨rfl, e2⟩; have ze2 := e2.size; have b7 := b7.keep e2 (by simp); have b8 := b8.keep e2 (by simp); have b13 := b13.keep e2 (by simp); have b14 := b14.keep e2 (by simp); have b18 := b18.keep e2 (by simp); clear x7 x8 x13 x14 x18; have hH := hH.keep e2; have hA := hA.keep e2; have hB := hB.keep e2; have x7 : w9.cell? ⟨w.heap.size, 0, none⟩ = some (.slice a n c) := b7.cell 0 (by show 0 < 1; decide); have x8 : w9.cell? ⟨(w.heap.size + 1), 0, none⟩ = some (.slice b m d) := b8.cell 0 (by show 0 < 1; decide); have x13 : w9.cell? ⟨w2.heap.size, 0, none⟩ = some (.slice ah n ch) := b13.cell 0 (by show 0 < 1; decide); have x14 : w9.cell? ⟨w4.heap.size, 0, none⟩ = some (.slice a1 n1 c1) := b14.cell 0 (by show 0 < 1; decide); have x18 : w9.cell? ⟨w6.heap.size, 0, none⟩ = some (.slice a2 n2 c2) := b18.cell 0 (by show 0 < 1; decide); have s8 : True := trivial)
    | (go_at_call 13; have _t := s8; clear s8; refine (sameRing_any _ _ _ _ _ _ R _ hH.rd (hr.keep (grown_trans (grown_trans G7 e1) e2))).mono ?_; rintro e w10 ⟨rfl, e3⟩; have ze3 := e3.size; have b7 := b7.keep e3 (by simp); have b8 := b8.keep e3 (by simp); have b13 := b13.keep e3 (by simp); have b14 := b14.keep e3 (by simp); have b18 := b18.keep e3 (by simp); clear x7 x8 x13 x14 x18; have hH := hH.keep e3; have hA := hA.keep e3; have hB := hB.keep e3; have x7 : w10.cell? ⟨w.heap.size, 0, none⟩ = some (.slice a n c) := b7.cell 0 (by show 0 < 1; decide); have x8 : w10.cell? ⟨(w.heap.size + 1), 0, none⟩ = some (.slice b m d) := b8.cell 0 (by show 0 < 1; decide); have x13 : w10.cell? ⟨w2.heap.size, 0, none⟩ = some (.slice ah n ch) := b13.cell 0 (by show 0 < 1; decide); have x14 : w10.cell? ⟨w4.heap.size, 0, none⟩ = some (.slice a1 n1 c1) := b14.cell 0 (by show 0 < 1; decide); have x18 : w10.cell? ⟨w6.heap.size, 0, none⟩ = some (.slice a2 n2 c2) := b18.cell 0 (by show 0 < 1; decide); have s9 : True := trivial)
    | (go_at_call 24; have _t := s9; clear s9; refine (kT _).mono ?_; rintro e w11 ⟨rfl, e4⟩; have e4 : w10.grownBy w11 none := e4; have ze4 := e4.size; have b7 := b7.keep e4 (by simp); have b8 := b8.keep e4 (by simp); have b13 := b13.keep e4 (by simp); have b14 := b14.keep e4 (by simp); have b18 := b18.keep e4 (by simp); clear x7 x8 x13 x14 x18; have hH := hH.keep e4; have hA := hA.keep e4; have hB := hB.keep e4; have G11 := grown_trans (grown_trans (grown_trans (grown_trans G7 e1) e2) e3) e4; have x7 : w11.cell? ⟨w.heap.size, 0, none⟩ = some (.slice a n c) := b7.cell 0 (by show 0 < 1; decide); have x8 : w11.cell? ⟨(w.heap.size + 1), 0, none⟩ = some (.slice b m d) := b8.cell 0 (by show 0 < 1; decide); have x13 : w11.cell? ⟨w2.heap.size, 0, none⟩ = some (.slice ah n ch) := b13.cell 0 (by show 0 < 1; decide); have x14 : w11.cell? ⟨w4.heap.size, 0, none⟩ = some (.slice a1 n1 c1) := b14.cell 0 (by show 0 < 1; decide); have x18 : w11.cell? ⟨w6.heap.size, 0, none⟩ = some (.slice a2 n2 c2) := b18.cell 0 (by show 0 < 1; decide); have s10 : True := trivial)
    | (go_at_call 11; have _t := s10; clear s10; refine (kW _ (hw.keep G11)).mono ?_; rintro e w12 ⟨ak, ck, kk, rfl, hK, y12⟩; have z12 := y12.size; have b7 := b7.keep y12 (by simp); have b8 := b8.keep y12 (by simp); have b13 := b13.keep y12 (by simp); have b14 := b14.keep y12 (by simp); have b18 := b18.keep y12 (by simp); clear x7 x8 x13 x14 x18; have hH := hH.keep y12; have hA := hA.keep y12; have hB := hB.keep y12; clear bn gn; have bn := BxS.new w12 24 #[.slice none 0 0]; have gn := World.grownBy_alloc w12 (.cells #[.slice none 0 0] 24) none; have s11 : True := trivial)
    | (have _t := s11; clear s11; refine wpList_stX _ rfl _ (.tmp 22) (.tmp 85) rfl w12.heap.size _ _ rfl rfl bn i1 rfl (by simp [Value.oneCell']) ?_; intro w13 b22 u22; have Y22 := grown_far gn u22 (fun q e => by have e := Option.some.inj e; omega); have b7 := b7.keep Y22 (by simp); have b8 := b8.keep Y22 (by simp); have b13 := b13.keep Y22 (by simp); have b14 := b14.keep Y22 (by simp); have b18 := b18.keep Y22 (by simp); have l22 := b22.lt; have hH := hH.keep Y22; have hA := hA.keep Y22; have hB := hB.keep Y22; have hK := hK.keep Y22; have G13 := grown_trans (grown_trans G11 y12) Y22; have z13 := Y22.size; have x7 : w13.cell? ⟨w.heap.size, 0, none⟩ = some (.slice a n c) := b7.cell 0 (by show 0 < 1; decide); have x8 : w13.cell? ⟨(w.heap.size + 1), 0, none⟩ = some (.slice b m d) := b8.cell 0 (by show 0 < 1; decide); have x13 : w13.cell? ⟨w2.heap.size, 0, none⟩ = some (.slice ah n ch) := b13.cell 0 (by show 0 < 1; decide); have x14 : w13.cell? ⟨w4.heap.size, 0, none⟩ = some (.slice a1 n1 c1) := b14.cell 0 (by show 0 < 1; decide); have x18 : w13.cell? ⟨w6.heap.size, 0, none⟩ = some (.slice a2 n2 c2) := b18.cell 0 (by show 0 < 1; decide); have x22 : w13.cell? ⟨w12.heap.size, 0, none⟩ = some (.slice ak m ck) := b22.cell 0 (by show 0 < 1; decide); have s12 : True := trivial)
    | (go_at_call 25; have _t := s12; clear s12; have hAq : ∀ x, Okb (.slice a1 n1 c1) k1 x → w3.heap.size ≤ x ∧ x < w5.heap.size := hA5q; have hHq : ∀ x, Okb (.slice ah n ch) kh x → w1.heap.size ≤ x ∧ x < w3.heap.size := hH3q; refine (overRing_any a1 n1 c1 _ k1 V _ hA fV1 (by have := hA.rd.len; omega)).mono ?_; rintro e w14 ⟨rfl, F1⟩; have b7 := b7.fz F1 (hA.nobox b7); have b8 := b8.fz F1 (hA.nobox b8); have b13 := b13.fz F1 (hA.nobox b13); have b14 := b14.fz F1 (hA.nobox b14); have b18 := b18.fz F1 (hA.nobox b18); have b22 := b22.fz F1 (hA.nobox b22); clear x7 x8 x13 x14 x18 x22; have hB := hB.fz F1 (fun x hx hy => by have p1 := hB.o.hi hx; have p2 := hAq x hy; omega); have hK := hK.fz F1 (fun x hx hy => by have p1 := hK.o.hi hx; have p2 := hAq x hy; omega); have hH := hH.fz F1 (fun x hx hy => by have p1 := hH.o.hi hx; have p2 := hAq x hy; have p3 := hHq x hx; omega); have x7 : w14.cell? ⟨w.heap.size, 0, none⟩ = some (.slice a n c) := b7.cell 0 (by show 0 < 1; decide); have x8 : w14.cell? ⟨(w.heap.size + 1), 0, none⟩ = some (.slice b m d) := b8.cell 0 (by show 0 < 1; decide); have x13 : w14.cell? ⟨w2.heap.size, 0, none⟩ = some (.slice ah n ch) := b13.cell 0 (by show 0 < 1; decide); have x14 : w14.cell? ⟨w4.heap.size, 0, none⟩ = some (.slice a1 n1 c1) := b14.cell 0 (by show 0 < 1; decide); have x18 : w14.cell? ⟨w6.heap.size, 0, none⟩ = some (.slice a2 n2 c2) := b18.cell 0 (by show 0 < 1; decide); have x22 : w14.cell? ⟨w12.heap.size, 0, none⟩ = some (.slice ak m ck) := b22.cell 0 (by show 0 < 1; decide); have s13 : True := trivial)
    | (go_at_call 25; have _t := s13; clear s13; refine (overRing_any ah n ch _ kh R _ hH fR1 (by omega)).mono ?_; rintro e w15 ⟨rfl, F2⟩; have b7 := b7.fz F2 (hH.nobox b7); have b8 := b8.fz F2 (hH.nobox b8); have b13 := b13.fz F2 (hH.nobox b13); have b14 := b14.fz F2 (hH.nobox b14); have b18 := b18.fz F2 (hH.nobox b18); have b22 := b22.fz F2 (hH.nobox b22); clear x7 x8 x13 x14 x18 x22; have hB := hB.fz F2 (fun x hx hy => by have p1 := hB.o.hi hx; have p2 := hHq x hy; omega); have hK := hK.fz F2 (fun x hx hy => by have p1 := hK.o.hi hx; have p2 := hHq x hy; omega); have x7 : w15.cell? ⟨w.heap.size, 0, none⟩ = some (.slice a n c) := b7.cell 0 (by show 0 < 1; decide); have x8 : w15.cell? ⟨(w.heap.size + 1), 0, none⟩ = some (.slice b m d) := b8.cell 0 (by show 0 < 1; decide); have x13 : w15.cell? ⟨w2.heap.size, 0, none⟩ = some (.slice ah n ch) := b13.cell 0 (by show 0 < 1; decide); have x14 : w15.cell? ⟨w4.heap.size, 0, none⟩ = some (.slice a1 n1 c1) := b14.cell 0 (by show 0 < 1; decide); have x18 : w15.cell? ⟨w6.heap.size, 0, none⟩ = some (.slice a2 n2 c2) := b18.cell 0 (by show 0 < 1; decide); have x22 : w15.cell? ⟨w12.heap.size, 0, none⟩ = some (.slice ak m ck) := b22.cell 0 (by show 0 < 1; decide); have s14 : True := trivial)
    | (go_at_call 13; have _t := s14; clear s14; refine (sameRing_any _ _ _ _ _ _ V _ hB.rd hK.rd).mono ?_; rintro e w16 ⟨rfl, y16⟩))
  go_ret
  exact ⟨rfl, grown_trans (Fz.grown (Fz.grown G13 F1 (fun i h => by have := hA5q i h; omega)) F2 (fun i h => by have := hH3q i h; omega)) y16⟩
theorem ad_fit {R : List Kd} {k : Kd} (f1 : ∀ k, k ∈ R → k.W.length ≤ 17592186043904) (fk : k.W.length ≤ 17592186043904) (n : Nat) (hn : n = R.length) (f2 : n * 48 ≤ 140737488351232) : (∀ q, q ∈ adV R k → q.W.length ≤ 17592186043904) ∧ (adV R k).length * 48 ≤ 140737488351232 := by
  cases hB : rmB R with
  | false =>
    have e : adV R k = [] := by unfold adV; rw [hB]; rfl
    rw [e]
    exact ⟨(fun k hk => by cases hk), by decide⟩
  | true =>
    have h8 := (rm_ok hB).1
    by_cases h0 : adE R k = 0
    · have e : adV R k = R ++ [k] := by unfold adV; rw [hB, h0]; rfl
      rw [e]
      refine ⟨fun q hq => ?_, by rw [List.length_append]; show (R.length + 1) * 48 ≤ _; omega⟩
      rcases List.mem_append.1 hq with hq | hq
      · exact f1 q hq
      · have hq := List.mem_singleton.1 hq
        subst hq
        exact fk
    · have e : adV R k = R := by unfold adV; rw [hB, if_pos rfl, if_neg h0]
      rw [e]
      exact ⟨f1, by omega⟩
set_option maxHeartbeats 64000000 in
theorem adds_walk (a : Option Addr) (n c : Nat) (R : List Kd) (kk : Kw) (w : World) (h : RdG w a n c R) (hk : RdI w kk.a kk.n kk.c kk.W) (hbd : I64 kk.id ∧ I64 kk.tp ∧ I64 kk.sn) (f1 : ∀ k, k ∈ R → k.W.length ≤ 17592186043904) (f2 : n * 48 ≤ 140737488351232) (fk : kk.n ≤ 17592186043904) :
    Calls Try.prog 3 #[.agg #[.slice a n c], .agg #[.int .i64 kk.id, .slice kk.a kk.n kk.c, .int .i64 kk.tp, .int .i64 kk.sn]] w fun e w' => e = .returned (.bool true) ∧ Below w.heap.size w w' := by
  have b2 := BxS.new w 24 #[.slice a n c]
  have g0 := World.grownBy_alloc w (.cells #[.slice a n c] 24) none
  generalize hw0 : w.alloc (.cells #[.slice a n c] 24) = w0 at b2 g0
  have hz0 : w0.heap.size = w.heap.size + 1 := by rw [← hw0]; simp
  have b3 := BxS.new w0 27 #[.int .i64 kk.id, .slice kk.a kk.n kk.c, .int .i64 kk.tp, .int .i64 kk.sn]
  have g1 := World.grownBy_alloc w0 (.cells #[.int .i64 kk.id, .slice kk.a kk.n kk.c, .int .i64 kk.tp, .int .i64 kk.sn] 27) none
  generalize hw1 : w0.alloc (.cells #[.int .i64 kk.id, .slice kk.a kk.n kk.c, .int .i64 kk.tp, .int .i64 kk.sn] 27) = w1 at b3 g1
  rw [hz0] at b3
  have sz1 : w.heap.size + 2 ≤ w1.heap.size := by rw [← hw1]; simp [hz0]
  have b2 := b2.keep g1 (by simp)
  have G1 := grown_trans g0 g1
  have i1 := Try.info_rg1
  have i4 := Try.info_ky4
  have x2 : w1.cell? ⟨w.heap.size, 0, none⟩ = some (.slice a n c) := b2.cell 0 (by show 0 < 1; decide)
  obtain ⟨t0, t1, t2, t3⟩ := BxS.cell4 b3
  have hF := radd_any a n c R kk w1 (h.keep G1) (hk.keep G1) hbd
  have hC := fun gz (ww : Kw) (hd : ww.d = kk.d) (hb : I64 ww.id ∧ I64 ww.tp ∧ I64 ww.sn) wz za zc hv (hz : RdG wz za n zc R) => adds1_any gz ww za n zc R wz hv hb hz
  have kA0 := fun (ww : Kw) (hb : I64 ww.id ∧ I64 ww.tp ∧ I64 ww.sn) ar cr wz (hz : RdG wz ar n cr R) hw => add_any ar n cr R ww wz hz hw hb
  have kR := fun wz (hz : RdG wz a n c R) => ringOf_any a n c R wz hz (fun k hk => by have := f1 k hk; omega) (by omega)
  obtain ⟨fV1, fV2⟩ := ad_fit (k := kk.d) f1 (by show kk.W.length ≤ _; rw [hk.len]; exact fk) n h.len.symm f2
  have s0 : True := trivial
  go_enter Try.func3, Try.ntmps3
  go_wp2_with (first
    | (go_at_call 5; have _t := s0; clear s0; refine hF.mono ?_; rintro e w2 ⟨a1, n1, c1, rfl, hA, y2⟩; have z2 := y2.size; have b2 := b2.keep y2 (by simp); have b3 := b3.keep y2 (by simp); have bn := BxS.new w2 24 #[.slice none 0 0]; have gn := World.grownBy_alloc w2 (.cells #[.slice none 0 0] 24) none; clear x2 t0 t1 t2 t3; have s1 : True := trivial)
    | (have _t := s1; clear s1; refine wpList_stX _ rfl _ (.tmp 5) (.tmp 15) rfl w2.heap.size _ _ rfl rfl bn i1 rfl (by simp [Value.oneCell']) ?_; intro w3 b5 v5; have Y3 := grown_far gn v5 (fun q e => by have e := Option.some.inj e; omega); have l5 := b5.lt; have b2 := b2.keep Y3 (by simp); have b3 := b3.keep Y3 (by simp); obtain ⟨t0, t1, t2, t3⟩ := BxS.cell4 b3; have bk := BxS.new w3 27 #[.int .i64 0, .slice none 0 0, .int .i64 0, .int .i64 0]; have gk := World.grownBy_alloc w3 (.cells #[.int .i64 0, .slice none 0 0, .int .i64 0, .int .i64 0] 27) none; have s2 : True := trivial)
    | (have _t := s2; clear s2; refine wpList_stX _ rfl _ (.tmp 7) (.tmp 17) rfl w3.heap.size _ _ rfl rfl bk i4 rfl (by simp [Value.oneCell']) ?_; intro w4 b7 v7; have Y4 := grown_far gk v7 (fun q e => by have e := Option.some.inj e; omega); have l7 := b7.lt; have b2 := b2.keep Y4 (by simp); have b3 := b3.keep Y4 (by simp); have b5 := b5.keep Y4 (by simp); clear t0 t1 t2 t3; obtain ⟨t0, t1, t2, t3⟩ := BxS.cell4 b3; have G4 := grown_trans (grown_trans (grown_trans G1 y2) Y3) Y4; have s3 : True := trivial)
    | (go_at_call 6; have _t := s3; clear s3; refine (copied_any kk.a kk.n kk.c kk.W _ (hk.keep G4) (by omega)).mono ?_; rintro e w5 ⟨xa, xc, rfl, hX, y5⟩; have z5 := y5.size; have b2 := b2.keep y5 (by simp); have b3 := b3.keep y5 (by simp); have b5 := b5.keep y5 (by simp); have b7 := b7.keep y5 (by simp); clear t0 t1 t2 t3; have s4 : True := trivial)
    | (have _t := s4; clear s4; refine wpList_stC _ rfl _ _ _ rfl w3.heap.size 1 27 _ #[.int .i64 kk.id, .slice xa kk.n xc, .int .i64 kk.tp, .int .i64 kk.sn] (.slice xa kk.n xc) rfl rfl b7 (stc_ints _ _ _ _ _) (by show 1 < 4; decide) rfl ?_; intro w6 b7 v6; have b2 := b2.keep v6 (fun e => by have e := Option.some.inj e; omega); have b3 := b3.keep v6 (fun e => by have e := Option.some.inj e; omega); have b5 := b5.keep v6 (fun e => by have e := Option.some.inj e; omega); have hX := hX.kept v6 (by cases e2 : (Value.slice xa kk.n xc).ownBlock with | none => exact .inl rfl | some x => exact .inr (fun e3 => by have e3 := Option.some.inj e3; have := hX.new x e2; omega)); have Y6 := grown_far (grown_trans (grown_trans Y3 Y4) y5) v6 (fun q e => by have e := Option.some.inj e; omega); have G6 := grown_trans (grown_trans G1 y2) Y6; have x2 : w6.cell? ⟨w.heap.size, 0, none⟩ = some (.slice a n c) := b2.cell 0 (by show 0 < 1; decide); have x5 : w6.cell? ⟨w2.heap.size, 0, none⟩ = some (.slice a1 n1 c1) := b5.cell 0 (by show 0 < 1; decide); have lV := hA.len; have s5 : True := trivial)
    | (go_at_call 9; have _t := s5; clear s5; refine (ringAs_add w3.heap.size R (adV R kk.d) (adE R kk.d) a a1 n c n1 c1 w6 (fun wx => BxS wx w3.heap.size 27 #[.int .i64 kk.id, .slice xa kk.n xc, .int .i64 kk.tp, .int .i64 kk.sn] ∧ RdI wx xa kk.n xc kk.W) (fun x y hx hg => ⟨hx.1.keep hg (by simp), hx.2.keep hg⟩) ⟨b7, hX.rd⟩ (fun wz za zc hv hz => hC w3.heap.size (Kw.mk kk.id xa kk.n xc kk.W kk.tp kk.sn) rfl hbd wz za zc hv hz) (h.keep G6) (hA.keep Y6) f1 f2 fV1 (by omega)).mono ?_; rintro e w7 ⟨rfl, y7⟩; have b2 := b2.keep y7 (by simp); have b3 := b3.keep y7 (by simp); have b5 := b5.keep y7 (by simp); have b7 := b7.keep y7 (by simp); have hX := hX.keep y7; have G7 := grown_trans G6 y7; clear x2 x5; obtain ⟨t0, t1, t2, t3⟩ := BxS.cell4 b3; obtain ⟨r0, r1, r2, r3⟩ := BxS.cell4 b7; have s6 : True := trivial)
    | (go_at_call 10; have _t := s6; clear s6; refine (sameKey_any kk.id xa kk.a kk.n xc kk.c kk.tp kk.sn kk.W _ hX.rd (hk.keep G7)).mono ?_; rintro e wB ⟨rfl, yB⟩; clear t0 t1 t2 t3 r0 r1 r2 r3))
  have YB := grown_trans (grown_trans Y6 y7) yB
  have GB := grown_trans G7 yB
  have b2B := b2.keep yB (by simp)
  have b5B := b5.keep yB (by simp)
  have b7B := b7.keep yB (by simp)
  have hXB := hX.keep yB
  have hrB := h.keep GB
  have hwB := hXB.rd
  have kA := kA0 (Kw.mk kk.id xa kk.n xc kk.W kk.tp kk.sn) hbd
  have l7B := b7B.lt
  have l5B := b5B.lt
  have hFV : adE R (Kw.mk kk.id xa kk.n xc kk.W kk.tp kk.sn).d = adE R kk.d := rfl
  have hFW : adV R (Kw.mk kk.id xa kk.n xc kk.W kk.tp kk.sn).d = adV R kk.d := rfl
  simp only [hFV, hFW] at kA
  generalize adV R kk.d = V at *
  generalize adE R kk.d = Er at *
  have SS := grown_drew wB none
  refine wp_regionL (fun wz => wB.grownBy wz none) [] #[false, false, false, false, false, false, false, false, false, false] rfl (by kernel_rfl) ?_
  refine wpAnyZ_take [] 0 (.agg #[.slice a n c]) rfl (by kernel_rfl) (fun _ _ _ h => h) SS rfl (by intro wz hz; have z0 : wz.cell? ⟨w.heap.size, 0, none⟩ = some (.slice a n c) := (b2B.keep hz (by simp)).cell 0 (by show 0 < 1; decide); go_simp) ?_
  try simp only [List.getElem_toArray, List.getElem_cons_succ, List.getElem_cons_zero, Act.put, List.setIfInBounds_toArray, List.set_cons_zero, List.set_cons_succ]
  refine wpAnyZ_take [] 2 (.agg #[.int .i64 kk.id, .slice xa kk.n xc, .int .i64 kk.tp, .int .i64 kk.sn]) rfl (by kernel_rfl) (fun _ _ _ h => h) SS rfl (by intro wz hz; obtain ⟨z0, z1, z2, z3⟩ := BxS.cell4 (b7B.keep hz (by simp)); go_simp) ?_
  try simp only [List.getElem_toArray, List.getElem_cons_succ, List.getElem_cons_zero, Act.put, List.setIfInBounds_toArray, List.set_cons_zero, List.set_cons_succ]
  generalize wB.drew = x0 at *
  refine wpAnyZ_twoB 1 7 rfl rfl (by kernel_rfl) (fun K hK => ?_) (fun K hK => ?_)
  · go_simp
    go_at_call 11
    refine (kR _ (hrB.keep SS)).mono ?_
    rintro e x1 ⟨ar, cr, kr, rfl, hO, gX⟩
    dsimp only
    have SS := grown_trans SS gX
    refine hK _ _ (fun _ => SS) ?_
    try simp only [List.getElem_toArray, List.getElem_cons_succ, List.getElem_cons_zero, Act.put, List.setIfInBounds_toArray, List.set_cons_zero, List.set_cons_succ]
    clear gX
    refine wpAnyZ_twoB 3 7 rfl rfl (by kernel_rfl) (fun K hK => ?_) (fun K hK => ?_)
    · go_simp
      go_at_call 8
      refine (kA ar cr _ hO.rd (hwB.keep SS)).mono ?_
      rintro e x2 ⟨aP, nP, cP, kP, rfl, hP0, gX⟩
      dsimp only
      have szs := SS.size
      have hP : OwG _ wB.heap.size aP nP cP kP V := hP0.wide szs
      clear hP0 szs
      have SS := grown_trans SS gX
      refine hK _ _ (fun _ => SS) ?_
      try simp only [List.getElem_toArray, List.getElem_cons_succ, List.getElem_cons_zero, Act.put, List.setIfInBounds_toArray, List.set_cons_zero, List.set_cons_succ]
      clear gX
      refine wpAnyZ_take [] 4 (.tuple #[.agg #[.slice aP nP cP], .int .i64 (Er : Int)]) rfl (by kernel_rfl) (fun _ _ _ h => h) SS rfl (by intro wz hz; go_simp) ?_
      try simp only [List.getElem_toArray, List.getElem_cons_succ, List.getElem_cons_zero, Act.put, List.setIfInBounds_toArray, List.set_cons_zero, List.set_cons_succ]
      refine wpAnyZ_take [] 5 (.agg #[.slice aP nP cP]) rfl (by kernel_rfl) (fun _ _ _ h => h) SS rfl (by intro wz hz; go_simp) ?_
      try simp only [List.getElem_toArray, List.getElem_cons_succ, List.getElem_cons_zero, Act.put, List.setIfInBounds_toArray, List.set_cons_zero, List.set_cons_succ]
      refine wpAnyZ_take [] 6 (.int .i64 (Er : Int)) rfl (by kernel_rfl) (fun _ _ _ h => h) SS rfl (by intro wz hz; go_simp) ?_
      try simp only [List.getElem_toArray, List.getElem_cons_succ, List.getElem_cons_zero, Act.put, List.setIfInBounds_toArray, List.set_cons_zero, List.set_cons_succ]
      refine wpAnyZ_oneB 7 rfl (by kernel_rfl) (fun K hK => ?_)
      go_simp
      have gX := World.grownBy_alloc x2 (.cells #[.slice none 0 0] 24) none
      have p9 := BxS.new x2 24 #[.slice none 0 0]
      have n9 : wB.heap.size ≤ x2.heap.size := SS.size
      have hP := hP.keep gX
      have SS := grown_trans SS gX
      refine hK _ _ (fun _ => SS) ?_
      try simp only [List.getElem_toArray, List.getElem_cons_succ, List.getElem_cons_zero, Act.put, List.setIfInBounds_toArray, List.set_cons_zero, List.set_cons_succ]
      generalize hz3 : x2.alloc (.cells #[.slice none 0 0] 24) = x3 at *
      clear hz3 gX
      refine wpAnyZ_oneB 8 rfl (by kernel_rfl) (fun K hK => ?_)
      refine step_stX _ rfl 24 (.tmp 9) (.tmp 40) rfl x2.heap.size _ _ rfl rfl p9 i1 rfl (by simp [Value.oneCell']) ?_
      intro y8 b9 u8
      have hP := hP.fz ((Fz.refl _ _).step u8 (p := fun x => x = x2.heap.size) (fun q e _ => (Option.some.inj e).symm)) (fun x hx e => by subst e; exact hP.nobox p9 hx)
      have SS := grown_far SS u8 (fun q e => by have e := Option.some.inj e; omega)
      refine hK _ _ (fun _ => SS) ?_
      try simp only [List.getElem_toArray, List.getElem_cons_succ, List.getElem_cons_zero, Act.put, List.setIfInBounds_toArray, List.set_cons_zero, List.set_cons_succ]
      refine wpAnyZ_take [] 9 (.int .i64 (Er : Int)) rfl (by kernel_rfl) (fun _ _ _ h => h) SS rfl (by intro wz hz; go_simp) ?_
      try simp only [List.getElem_toArray, List.getElem_cons_succ, List.getElem_cons_zero, Act.put, List.setIfInBounds_toArray, List.set_cons_zero, List.set_cons_succ]
      refine wpAnyZ_doneB (by kernel_rfl) ?_ _
      have b7e := b7B.keep SS (by simp)
      have b5e := b5B.keep SS (by simp)
      have hXe := hXB.keep SS
      have x7 : y8.cell? ⟨w3.heap.size, 1, none⟩ = some (.slice xa kk.n xc) := b7e.cell 1 (by show 1 < 4; decide)
      have kO := over2_any (-7) xa kk.n xc w4.heap.size kk.W y8 hXe.x (by omega)
      have s9 : True := trivial
      go_wp2_with (first
    | (go_at_call 12; have _t := s9; clear s9; refine kO.mono ?_; rintro e y9 ⟨rfl, u9⟩; have hw9 : ∀ q, (Value.slice xa kk.n xc).ownBlock = some q → w4.heap.size ≤ q ∧ q < wB.heap.size := fun q e => ⟨hXe.new q e, hXB.lt q e⟩; have b9 := b9.keep u9 (fun e => by have := hw9 _ e.symm; omega); have b5f := b5e.keep u9 (fun e => by have := hw9 _ e.symm; omega); have hP9 := hP.fz ((Fz.refl _ _).step u9 (p := fun x => x < wB.heap.size) (fun q e _ => (hw9 q e).2)) (fun x hx e => by have := (hP.o.hi hx).2; omega); have hW9 := hA.keep (grown_far (grown_trans YB SS) u9 (fun q e => by have := hw9 q e; omega)); have x9 : y9.cell? ⟨x2.heap.size, 0, none⟩ = some (.slice aP nP cP) := b9.cell 0 (by show 0 < 1; decide); have x5 : y9.cell? ⟨w2.heap.size, 0, none⟩ = some (.slice a1 n1 c1) := b5f.cell 0 (by show 0 < 1; decide); have s10 : True := trivial)
    | (go_at_call 13; have _t := s10; clear s10; refine (sameRing_any _ _ _ _ _ _ V _ hP9.rd hW9).mono ?_; rintro e y10 ⟨rfl, u10⟩))
      go_ret
      exact ⟨rfl, (Below.refl _ _).grown (grown_trans (grown_far (grown_trans GB SS) u9 (fun q e => by have := hw9 q e; omega)) u10) (Nat.le_refl _) (fun k hk => by cases hk)⟩
    · go_simp
      have gX := World.grownBy_alloc x1 (.cells #[.slice none 0 0] 24) none
      have p9 := BxS.new x1 24 #[.slice none 0 0]
      have n9 : wB.heap.size ≤ x1.heap.size := SS.size
      have hO := hO.keep gX
      have SS := grown_trans SS gX
      refine hK _ _ (fun _ => SS) ?_
      try simp only [List.getElem_toArray, List.getElem_cons_succ, List.getElem_cons_zero, Act.put, List.setIfInBounds_toArray, List.set_cons_zero, List.set_cons_succ]
      generalize hz2 : x1.alloc (.cells #[.slice none 0 0] 24) = x2 at *
      clear hz2 gX
      refine wpAnyZ_oneB 3 rfl (by kernel_rfl) (fun K hK => ?_)
      go_simp
      go_at_call 8
      refine (kA ar cr _ hO.rd (hwB.keep SS)).mono ?_
      rintro e x3 ⟨aP, nP, cP, kP, rfl, hP0, gX⟩
      dsimp only
      have szs := SS.size
      have hP : OwG _ wB.heap.size aP nP cP kP V := hP0.wide szs
      clear hP0 szs
      have p9 := p9.keep gX (by simp)
      have SS := grown_trans SS gX
      refine hK _ _ (fun _ => SS) ?_
      try simp only [List.getElem_toArray, List.getElem_cons_succ, List.getElem_cons_zero, Act.put, List.setIfInBounds_toArray, List.set_cons_zero, List.set_cons_succ]
      clear gX
      refine wpAnyZ_take [] 4 (.tuple #[.agg #[.slice aP nP cP], .int .i64 (Er : Int)]) rfl (by kernel_rfl) (fun _ _ _ h => h) SS rfl (by intro wz hz; go_simp) ?_
      try simp only [List.getElem_toArray, List.getElem_cons_succ, List.getElem_cons_zero, Act.put, List.setIfInBounds_toArray, List.set_cons_zero, List.set_cons_succ]
      refine wpAnyZ_take [] 5 (.agg #[.slice aP nP cP]) rfl (by kernel_rfl) (fun _ _ _ h => h) SS rfl (by intro wz hz; go_simp) ?_
      try simp only [List.getElem_toArray, List.getElem_cons_succ, List.getElem_cons_zero, Act.put, List.setIfInBounds_toArray, List.set_cons_zero, List.set_cons_succ]
      refine wpAnyZ_take [] 6 (.int .i64 (Er : Int)) rfl (by kernel_rfl) (fun _ _ _ h => h) SS rfl (by intro wz hz; go_simp) ?_
      try simp only [List.getElem_toArray, List.getElem_cons_succ, List.getElem_cons_zero, Act.put, List.setIfInBounds_toArray, List.set_cons_zero, List.set_cons_succ]
      refine wpAnyZ_oneB 8 rfl (by kernel_rfl) (fun K hK => ?_)
      refine step_stX _ rfl 24 (.tmp 9) (.tmp 40) rfl x1.heap.size _ _ rfl rfl p9 i1 rfl (by simp [Value.oneCell']) ?_
      intro y8 b9 u8
      have hP := hP.fz ((Fz.refl _ _).step u8 (p := fun x => x = x1.heap.size) (fun q e _ => (Option.some.inj e).symm)) (fun x hx e => by subst e; exact hP.nobox p9 hx)
      have SS := grown_far SS u8 (fun q e => by have e := Option.some.inj e; omega)
      refine hK _ _ (fun _ => SS) ?_
      try simp only [List.getElem_toArray, List.getElem_cons_succ, List.getElem_cons_zero, Act.put, List.setIfInBounds_toArray, List.set_cons_zero, List.set_cons_succ]
      refine wpAnyZ_take [] 9 (.int .i64 (Er : Int)) rfl (by kernel_rfl) (fun _ _ _ h => h) SS rfl (by intro wz hz; go_simp) ?_
      try simp only [List.getElem_toArray, List.getElem_cons_succ, List.getElem_cons_zero, Act.put, List.setIfInBounds_toArray, List.set_cons_zero, List.set_cons_succ]
      refine wpAnyZ_doneB (by kernel_rfl) ?_ _
      have b7e := b7B.keep SS (by simp)
      have b5e := b5B.keep SS (by simp)
      have hXe := hXB.keep SS
      have x7 : y8.cell? ⟨w3.heap.size, 1, none⟩ = some (.slice xa kk.n xc) := b7e.cell 1 (by show 1 < 4; decide)
      have kO := over2_any (-7) xa kk.n xc w4.heap.size kk.W y8 hXe.x (by omega)
      have s9 : True := trivial
      go_wp2_with (first
    | (go_at_call 12; have _t := s9; clear s9; refine kO.mono ?_; rintro e y9 ⟨rfl, u9⟩; have hw9 : ∀ q, (Value.slice xa kk.n xc).ownBlock = some q → w4.heap.size ≤ q ∧ q < wB.heap.size := fun q e => ⟨hXe.new q e, hXB.lt q e⟩; have b9 := b9.keep u9 (fun e => by have := hw9 _ e.symm; omega); have b5f := b5e.keep u9 (fun e => by have := hw9 _ e.symm; omega); have hP9 := hP.fz ((Fz.refl _ _).step u9 (p := fun x => x < wB.heap.size) (fun q e _ => (hw9 q e).2)) (fun x hx e => by have := (hP.o.hi hx).2; omega); have hW9 := hA.keep (grown_far (grown_trans YB SS) u9 (fun q e => by have := hw9 q e; omega)); have x9 : y9.cell? ⟨x1.heap.size, 0, none⟩ = some (.slice aP nP cP) := b9.cell 0 (by show 0 < 1; decide); have x5 : y9.cell? ⟨w2.heap.size, 0, none⟩ = some (.slice a1 n1 c1) := b5f.cell 0 (by show 0 < 1; decide); have s10 : True := trivial)
    | (go_at_call 13; have _t := s10; clear s10; refine (sameRing_any _ _ _ _ _ _ V _ hP9.rd hW9).mono ?_; rintro e y10 ⟨rfl, u10⟩))
      go_ret
      exact ⟨rfl, (Below.refl _ _).grown (grown_trans (grown_far (grown_trans GB SS) u9 (fun q e => by have := hw9 q e; omega)) u10) (Nat.le_refl _) (fun k hk => by cases hk)⟩
  · go_simp
    have gX := World.grownBy_alloc x0 (.cells #[.slice none 0 0] 24) none
    have p9 := BxS.new x0 24 #[.slice none 0 0]
    have n9 : wB.heap.size ≤ x0.heap.size := SS.size
    have SS := grown_trans SS gX
    refine hK _ _ (fun _ => SS) ?_
    try simp only [List.getElem_toArray, List.getElem_cons_succ, List.getElem_cons_zero, Act.put, List.setIfInBounds_toArray, List.set_cons_zero, List.set_cons_succ]
    generalize hz1 : x0.alloc (.cells #[.slice none 0 0] 24) = x1 at *
    clear hz1 gX
    refine wpAnyZ_oneB 1 rfl (by kernel_rfl) (fun K hK => ?_)
    go_simp
    go_at_call 11
    refine (kR _ (hrB.keep SS)).mono ?_
    rintro e x2 ⟨ar, cr, kr, rfl, hO, gX⟩
    dsimp only
    have p9 := p9.keep gX (by simp)
    have SS := grown_trans SS gX
    refine hK _ _ (fun _ => SS) ?_
    try simp only [List.getElem_toArray, List.getElem_cons_succ, List.getElem_cons_zero, Act.put, List.setIfInBounds_toArray, List.set_cons_zero, List.set_cons_succ]
    clear gX
    refine wpAnyZ_oneB 3 rfl (by kernel_rfl) (fun K hK => ?_)
    go_simp
    go_at_call 8
    refine (kA ar cr _ hO.rd (hwB.keep SS)).mono ?_
    rintro e x3 ⟨aP, nP, cP, kP, rfl, hP0, gX⟩
    dsimp only
    have szs := SS.size
    have hP : OwG _ wB.heap.size aP nP cP kP V := hP0.wide szs
    clear hP0 szs
    have p9 := p9.keep gX (by simp)
    have SS := grown_trans SS gX
    refine hK _ _ (fun _ => SS) ?_
    try simp only [List.getElem_toArray, List.getElem_cons_succ, List.getElem_cons_zero, Act.put, List.setIfInBounds_toArray, List.set_cons_zero, List.set_cons_succ]
    clear gX
    refine wpAnyZ_take [] 4 (.tuple #[.agg #[.slice aP nP cP], .int .i64 (Er : Int)]) rfl (by kernel_rfl) (fun _ _ _ h => h) SS rfl (by intro wz hz; go_simp) ?_
    try simp only [List.getElem_toArray, List.getElem_cons_succ, List.getElem_cons_zero, Act.put, List.setIfInBounds_toArray, List.set_cons_zero, List.set_cons_succ]
    refine wpAnyZ_take [] 5 (.agg #[.slice aP nP cP]) rfl (by kernel_rfl) (fun _ _ _ h => h) SS rfl (by intro wz hz; go_simp) ?_
    try simp only [List.getElem_toArray, List.getElem_cons_succ, List.getElem_cons_zero, Act.put, List.setIfInBounds_toArray, List.set_cons_zero, List.set_cons_succ]
    refine wpAnyZ_take [] 6 (.int .i64 (Er : Int)) rfl (by kernel_rfl) (fun _ _ _ h => h) SS rfl (by intro wz hz; go_simp) ?_
    try simp only [List.getElem_toArray, List.getElem_cons_succ, List.getElem_cons_zero, Act.put, List.setIfInBounds_toArray, List.set_cons_zero, List.set_cons_succ]
    refine wpAnyZ_oneB 8 rfl (by kernel_rfl) (fun K hK => ?_)
    refine step_stX _ rfl 24 (.tmp 9) (.tmp 40) rfl x0.heap.size _ _ rfl rfl p9 i1 rfl (by simp [Value.oneCell']) ?_
    intro y8 b9 u8
    have hP := hP.fz ((Fz.refl _ _).step u8 (p := fun x => x = x0.heap.size) (fun q e _ => (Option.some.inj e).symm)) (fun x hx e => by subst e; exact hP.nobox p9 hx)
    have SS := grown_far SS u8 (fun q e => by have e := Option.some.inj e; omega)
    refine hK _ _ (fun _ => SS) ?_
    try simp only [List.getElem_toArray, List.getElem_cons_succ, List.getElem_cons_zero, Act.put, List.setIfInBounds_toArray, List.set_cons_zero, List.set_cons_succ]
    refine wpAnyZ_take [] 9 (.int .i64 (Er : Int)) rfl (by kernel_rfl) (fun _ _ _ h => h) SS rfl (by intro wz hz; go_simp) ?_
    try simp only [List.getElem_toArray, List.getElem_cons_succ, List.getElem_cons_zero, Act.put, List.setIfInBounds_toArray, List.set_cons_zero, List.set_cons_succ]
    refine wpAnyZ_doneB (by kernel_rfl) ?_ _
    have b7e := b7B.keep SS (by simp)
    have b5e := b5B.keep SS (by simp)
    have hXe := hXB.keep SS
    have x7 : y8.cell? ⟨w3.heap.size, 1, none⟩ = some (.slice xa kk.n xc) := b7e.cell 1 (by show 1 < 4; decide)
    have kO := over2_any (-7) xa kk.n xc w4.heap.size kk.W y8 hXe.x (by omega)
    have s9 : True := trivial
    go_wp2_with (first
    | (go_at_call 12; have _t := s9; clear s9; refine kO.mono ?_; rintro e y9 ⟨rfl, u9⟩; have hw9 : ∀ q, (Value.slice xa kk.n xc).ownBlock = some q → w4.heap.size ≤ q ∧ q < wB.heap.size := fun q e => ⟨hXe.new q e, hXB.lt q e⟩; have b9 := b9.keep u9 (fun e => by have := hw9 _ e.symm; omega); have b5f := b5e.keep u9 (fun e => by have := hw9 _ e.symm; omega); have hP9 := hP.fz ((Fz.refl _ _).step u9 (p := fun x => x < wB.heap.size) (fun q e _ => (hw9 q e).2)) (fun x hx e => by have := (hP.o.hi hx).2; omega); have hW9 := hA.keep (grown_far (grown_trans YB SS) u9 (fun q e => by have := hw9 q e; omega)); have x9 : y9.cell? ⟨x0.heap.size, 0, none⟩ = some (.slice aP nP cP) := b9.cell 0 (by show 0 < 1; decide); have x5 : y9.cell? ⟨w2.heap.size, 0, none⟩ = some (.slice a1 n1 c1) := b5f.cell 0 (by show 0 < 1; decide); have s10 : True := trivial)
    | (go_at_call 13; have _t := s10; clear s10; refine (sameRing_any _ _ _ _ _ _ V _ hP9.rd hW9).mono ?_; rintro e y10 ⟨rfl, u10⟩))
    go_ret
    exact ⟨rfl, (Below.refl _ _).grown (grown_trans (grown_far (grown_trans GB SS) u9 (fun q e => by have := hw9 q e; omega)) u10) (Nat.le_refl _) (fun k hk => by cases hk)⟩
end Go.Proofs.Ytdpgblojdppfeaa
