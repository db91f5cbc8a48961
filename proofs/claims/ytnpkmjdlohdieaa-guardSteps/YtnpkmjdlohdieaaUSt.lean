import Derived.Test.YtnpkmjdlohdieaaUMb
namespace Go.Proofs.Ytnpkmjdlohdieaa
open Go.RowKit
set_option maxRecDepth 100000
set_option linter.unusedVariables false
set_option linter.unusedSimpArgs false
theorem results_cell3s {fn : Func} {p u x : Tmp} {ty : TypeId} (h : fn.results = #[.cell p ty, .tmp u, .tmp x]) (tmps : Array Value) (P : Program) (w : World) (a : Addr) (v y z : Value) (ha : tmps.getD p undef = .pointer (some a)) (hl : (loadVar ty a).run P w = .ok v w) (hy : tmps.getD u undef = y) (hz : tmps.getD x undef = z) :
    (results fn tmps).run P w = .ok (.tuple #[v, y, z]) w := results_cell3 h tmps P w a v y z ha hl hy hz
/-- what Check tells of a guard that is right -/
theorem fbM_ok (F : Nat → Mo) (r : Nat × Nat) (f i : Nat) (h : (fbM F r f i).1 = 0) : r.1 = 0 ∧ ∀ k, i ≤ k → k < i + f → moE (F k) = 0 := by
  induction f generalizing i with
  | zero => exact ⟨h, fun k h1 h2 => by omega⟩
  | succ f ih =>
    simp only [fbM] at h
    by_cases hm : moE (F i) = 0
    · rw [if_pos hm] at h
      obtain ⟨h1, h2⟩ := ih (i + 1) h
      refine ⟨h1, fun k hk1 hk2 => ?_⟩
      by_cases e : k = i
      · subst e; exact hm
      · exact h2 k (by omega) (by omega)
    · rw [if_neg hm] at h
      exact absurd h hm
theorem moE_ok (m : Mo) (h : moE m = 0) : (0 ≤ m.of' ∧ m.of' ≤ 63) ∧ 1 ≤ m.fr ∧ m.fr ≤ 1000 := by
  unfold moE at h
  by_cases hb : moB m = true
  · unfold moB at hb
    simp only [Bool.and_eq_true] at hb
    have h1 := kwB_ok hb.1.1.1.1
    have h2 := kwB_ok hb.1.2
    omega
  · rw [if_neg hb] at h; cases h
theorem gfP_ok {F : Nat → Mo} {n : Nat} {si mo wi : Int} {sa : ByteArray} (h : (gfP F n si mo wi sa).1 = 0) : n ≤ 32 ∧ (0 ≤ si ∧ si ≤ 100000) ∧ (1 ≤ wi ∧ wi ≤ 100000) ∧ ∀ k, k < n → (0 ≤ (F k).of' ∧ (F k).of' ≤ 63) ∧ 1 ≤ (F k).fr ∧ (F k).fr ≤ 1000 := by
  have hn := gfP_n h
  unfold gfP at h
  rw [if_neg (by omega)] at h
  obtain ⟨h1, h2⟩ := fbM_ok F _ n 0 h
  have h3 : grE si mo wi sa = 0 := h1
  unfold grE at h3
  by_cases hb : (kwB si 0 100000 && kwB mo 1 100 && kwB wi 1 100000) = true
  · simp only [Bool.and_eq_true] at hb
    exact ⟨hn, kwB_ok hb.1.1, kwB_ok hb.2, fun k hk => moE_ok (F k) (h2 k (Nat.zero_le _) (by omega))⟩
  · rw [if_neg hb] at h3; cases h3
theorem msN_at (F : Nat → Mo) (bd : List Int) (tp : List Bool) (n : Nat) (h : msN F bd tp n = true) (k : Nat) (hk : k < n) : 0 ≤ nthI bd k ∧ nthI bd k ≤ (F k).fr := by
  induction n with
  | zero => omega
  | succ n ih =>
    simp only [msN, Bool.and_eq_true] at h
    by_cases e : k = n
    · subst e
      have := h.2
      unfold moS at this
      simp only [Bool.and_eq_true] at this
      exact kwB_ok this.1
    · exact ih h.1 (by omega)
theorem trN_at (tr : List Int) (wi : Int) (n : Nat) (h : trN tr wi n = true) (k : Nat) (hk : k < n) : 0 ≤ nthI tr k ∧ nthI tr k ≤ wi - 1 := by
  induction n with
  | zero => omega
  | succ n ih =>
    simp only [trN, Bool.and_eq_true] at h
    by_cases e : k = n
    · subst e
      have h2 := kwB_ok h.2
      cases k with
      | zero => exact h2
      | succ k =>
        have := ih h.1
        have h3 : eldN tr wi (k + 1) = nthI tr k := rfl
        rw [h3] at h2
        have : ∀ n, trN tr wi n = true → ∀ j, j < n → nthI tr j ≤ wi - 1 := by
          intro n
          induction n with
          | zero => intro _ j hj; omega
          | succ n ih2 =>
            intro hh j hj
            simp only [trN, Bool.and_eq_true] at hh
            by_cases e : j = n
            · subst e
              have h4 := kwB_ok hh.2
              cases j with
              | zero => exact h4.2
              | succ j => have h5 := ih2 hh.1 j (by omega); have h6 : eldN tr wi (j + 1) = nthI tr j := rfl; omega
            · exact ih2 hh.1 j (by omega)
        have := this (k + 1) h.1 k (by omega)
        omega
    · exact ih h.1 (by omega)
/-- what Step answers -/
def stE (F : Nat → Mo) (G : Gd) (D : Vi) (vn : Nat) : Nat := if (gfP F G.n G.si G.mo G.wi G.sa).1 = 0 then (if (vmB F G.n D G.si G.wi && amN F vn G.n) = true then 0 else 11) else (gfP F G.n G.si G.mo G.wi G.sa).1
def vi0 : Vi := ⟨false, 0, [], [], 0, []⟩
def stV (F : Nat → Mo) (G : Gd) (D : Vi) (Vs : List Int) (he le : Bool) (E : Nat) : Vi := if E = 0 then tiV F G Vs D he le else vi0
def stL (F : Nat → Mo) (G : Gd) (D : Vi) (Vs : List Int) (he le : Bool) (E : Nat) : List ByteArray := if E = 0 then naL F G.sa (tiV F G Vs D he le).sf (tiP F G Vs D he).2 (!D.sf) else []
/-- an answer of Step's kind -/
def StA (w : World) (D' : Vi) (L : List ByteArray) (E : Nat) (e : Ending) (w' : World) : Prop :=
  ∃ (A' : Va) (na : Option Addr) (nn nc : Nat), e = .returned (.tuple #[.agg (vgA D' A'), .slice na nn nc, .int .i64 (E : Nat)]) ∧ OwVg w' w.heap.size A' D' ∧ AnsX 9 w' w.heap.size na nn nc (sts L) ∧ w.grownBy w' none
theorem stA_zero (w w' : World) (E : Nat) (h : w.grownBy w' none) : StA w vi0 [] E (.returned (.tuple #[.agg #[.bool false, .int .i64 0, .slice none 0 0, .slice none 0 0, .int .i64 0, .slice none 0 0], .slice none 0 0, .int .i64 (E : Nat)])) w' :=
  ⟨va0, none, 0, 0, rfl, ⟨AnsX.nil0 _ _ _, AnsX.nil0 _ _ _, AnsX.nil0 _ _ _, fun g h => by cases h⟩, AnsX.nil0 _ _ _, h⟩
set_option maxHeartbeats 32000000 in
theorem step_any (G : Gd) (A : Va) (D : Vi) (F : Nat → Mo) (va : Option Addr) (vn vc : Nat) (Vs : List Int) (he le : Bool) (w : World) (hM : RdM w G.ma G.n G.mc F) (hV : RdVg w A D) (hX : RdX w va vn vc (zys Vs)) :
    Calls Try.prog 17 #[.agg #[.slice G.ma G.n G.mc, .int .i64 G.si, .int .i64 G.mo, .int .i64 G.wi, .string G.sa], .agg (vgA D A), .slice va vn vc, .bool he, .bool le] w fun e w' => StA w (stV F G D Vs he le (stE F G D vn)) (stL F G D Vs he le (stE F G D vn)) (stE F G D vn) e w' := by
  have b0 := BxS.new w 24 #[.slice G.ma G.n G.mc, .int .i64 G.si, .int .i64 G.mo, .int .i64 G.wi, .string G.sa]
  have g0 := World.grownBy_alloc w (.cells #[.slice G.ma G.n G.mc, .int .i64 G.si, .int .i64 G.mo, .int .i64 G.wi, .string G.sa] 24) none
  generalize hw0 : w.alloc (.cells #[.slice G.ma G.n G.mc, .int .i64 G.si, .int .i64 G.mo, .int .i64 G.wi, .string G.sa] 24) = w0 at b0 g0
  have hz0 : w0.heap.size = w.heap.size + 1 := by rw [← hw0]; simp
  have b1 := BxS.new w0 29 #[.bool D.sf, .int .i64 D.wy, .slice A.ab A.nb A.cb, .slice A.ap A.np A.cp, .int .i64 D.qu, .slice A.at' A.nt A.ct]
  have g1 := World.grownBy_alloc w0 (.cells #[.bool D.sf, .int .i64 D.wy, .slice A.ab A.nb A.cb, .slice A.ap A.np A.cp, .int .i64 D.qu, .slice A.at' A.nt A.ct] 29) none
  generalize hw1 : w0.alloc (.cells #[.bool D.sf, .int .i64 D.wy, .slice A.ab A.nb A.cb, .slice A.ap A.np A.cp, .int .i64 D.qu, .slice A.at' A.nt A.ct] 29) = w1 at b1 g1
  have hz1 : w1.heap.size = w.heap.size + 1 + 1 := by rw [← hw1]; simp [hz0]
  have b2 := BxS.new w1 29 #[.bool false, .int .i64 0, .slice none 0 0, .slice none 0 0, .int .i64 0, .slice none 0 0]
  have g2 := World.grownBy_alloc w1 (.cells #[.bool false, .int .i64 0, .slice none 0 0, .slice none 0 0, .int .i64 0, .slice none 0 0] 29) none
  generalize hw2 : w1.alloc (.cells #[.bool false, .int .i64 0, .slice none 0 0, .slice none 0 0, .int .i64 0, .slice none 0 0] 29) = w2 at b2 g2
  rw [hz0] at b1
  rw [hz1] at b2
  have hz2 : w2.heap.size = w.heap.size + 3 := by rw [← hw2]; simp [hz1]
  have p0 := (b0.keep g1 (by simp)).keep g2 (by simp)
  have p1 := b1.keep g2 (by simp)
  have G2 := grown_trans (grown_trans g0 g1) g2
  have hM2 := hM.keep G2
  have hV2 := hV.keep G2
  have hX2 := hX.keep G2
  have hC := check_any G.ma G.n G.mc G.si G.mo G.wi G.sa F w2 hM2
  have i6 := Try.info_vg
  unfold ftV at hC
  obtain ⟨c0, c1, c2, c3, c4⟩ := p0.cell5
  unfold vgA
  by_cases hE : (gfP F G.n G.si G.mo G.wi G.sa).1 = 0
  · obtain ⟨hn, ⟨hs0, hs1⟩, hwi, hmo⟩ := gfP_ok hE
    rw [hE, show ((0 : Nat) : Int) = 0 from rfl] at hC
    generalize (gfP F G.n G.si G.mo G.wi G.sa).2 = At at hC
    have kV := fun wz (h1 : RdM wz G.ma G.n G.mc F) (h2 : RdVg wz A D) => vigilMay_any G A D F wz h1 h2 hn hwi
    have kM := fun wz (h1 : RdM wz G.ma G.n G.mc F) => measured_any vn G.ma G.n G.mc F wz h1 hn
    unfold vgA at kV
    have hEE : stE F G D vn = if (vmB F G.n D G.si G.wi && amN F vn G.n) = true then 0 else 11 := if_pos hE
    cases hq : (vmB F G.n D G.si G.wi && amN F vn G.n)
    · rw [hq] at hEE
      have hEE : stE F G D vn = 11 := hEE
      rw [hEE, show stV F G D Vs he le 11 = vi0 from rfl, show stL F G D Vs he le 11 = [] from rfl]
      have hq2 : vmB F G.n D G.si G.wi = false ∨ (vmB F G.n D G.si G.wi = true ∧ amN F vn G.n = false) := by
        cases h1 : vmB F G.n D G.si G.wi
        · exact .inl rfl
        · rw [h1] at hq; exact .inr ⟨rfl, by simpa using hq⟩
      generalize vmB F G.n D G.si G.wi = q1 at *
      generalize amN F vn G.n = q2 at *
      clear hq hEE hE hmo
      have s1 : True := trivial
      rcases hq2 with hq2 | ⟨hq1, hq2⟩
      · subst hq2
        go_enter Try.func17, Try.ntmps17
        go_wp2_with (first
          | (go_at_call 9; refine hC.mono ?_; rintro e w3 ⟨rfl, g3⟩; clear c0 c1 c2 c3 c4; have gf := World.grownBy_alloc w3 (.cells #[.int .i64 0, .int .i64 (At : Int)] 34) none; have g4 := grown_trans g3 gf; have r0 := p0.keep g4 (by simp); have r1 := p1.keep g4 (by simp); have r2 := b2.keep g4 (by simp); obtain ⟨c0, c1, c2, c3, c4⟩ := r0.cell5; obtain ⟨d0, d1, d2, d3, d4, d5⟩ := r1.cell6; have G4 := grown_trans G2 g4; have hM4 := hM.keep G4; have hV4 := hV.keep G4; have hX4 := hX.keep G4; clear s1; have s2 : True := trivial)
          | (go_at_call 30; refine (kV _ hM4 hV4).mono ?_; rintro e w5 ⟨rfl, g5⟩; clear c0 c1 c2 c3 c4 d0 d1 d2 d3 d4 d5; have t0 := r0.keep g5 (by simp); have t1 := r1.keep g5 (by simp); have t2 := r2.keep g5 (by simp); obtain ⟨c0, c1, c2, c3, c4⟩ := t0.cell5; obtain ⟨d0, d1, d2, d3, d4, d5⟩ := t1.cell6; have G5 := grown_trans G4 g5)
          | (have _t := s2; refine wpList_stX _ rfl _ (.tmp 10) (.tmp 35) rfl (w.heap.size + 1 + 1) _ _ rfl rfl t2 i6 rfl (by simp [Value.oneCell']) ?_; clear s2; intro w9 b9 g9))
        refine bodyPost_ret (results_cell3s rfl _ _ _ ⟨w.heap.size + 1 + 1, 0, none⟩ _ (.slice none 0 0) (.int .i64 11) rfl (BxS.load (t := 29) b9 Try.underlying29 i6) rfl rfl) rfl ?_
        exact stA_zero w w9 11 (grown_far G5 g9 (fun q e => by have e : w.heap.size + 1 + 1 = q := Option.some.inj e; omega))
      · subst hq1 hq2
        go_enter Try.func17, Try.ntmps17
        go_wp2_with (first
          | (go_at_call 9; refine hC.mono ?_; rintro e w3 ⟨rfl, g3⟩; clear c0 c1 c2 c3 c4; have gf := World.grownBy_alloc w3 (.cells #[.int .i64 0, .int .i64 (At : Int)] 34) none; have g4 := grown_trans g3 gf; have r0 := p0.keep g4 (by simp); have r1 := p1.keep g4 (by simp); have r2 := b2.keep g4 (by simp); obtain ⟨c0, c1, c2, c3, c4⟩ := r0.cell5; obtain ⟨d0, d1, d2, d3, d4, d5⟩ := r1.cell6; have G4 := grown_trans G2 g4; have hM4 := hM.keep G4; have hV4 := hV.keep G4; have hX4 := hX.keep G4; clear s1; have s2 : True := trivial)
          | (go_at_call 30; refine (kV _ hM4 hV4).mono ?_; rintro e w5 ⟨rfl, g5⟩; clear c0 c1 c2 c3 c4 d0 d1 d2 d3 d4 d5; have t0 := r0.keep g5 (by simp); have t1 := r1.keep g5 (by simp); have t2 := r2.keep g5 (by simp); obtain ⟨c0, c1, c2, c3, c4⟩ := t0.cell5; obtain ⟨d0, d1, d2, d3, d4, d5⟩ := t1.cell6; have G5 := grown_trans G4 g5)
          | (go_at_call 31; refine (kM _ (hM.keep G5)).mono ?_; rintro e w6 ⟨rfl, g6⟩; clear c0 c1 c2 c3 c4 d0 d1 d2 d3 d4 d5; have x0 := t0.keep g6 (by simp); have x1 := t1.keep g6 (by simp); have x2 := t2.keep g6 (by simp); obtain ⟨c0, c1, c2, c3, c4⟩ := x0.cell5; obtain ⟨d0, d1, d2, d3, d4, d5⟩ := x1.cell6; have G6 := grown_trans G5 g6)
          | (have _t := s2; refine wpList_stX _ rfl _ (.tmp 10) (.tmp 35) rfl (w.heap.size + 1 + 1) _ _ rfl rfl x2 i6 rfl (by simp [Value.oneCell']) ?_; clear s2; intro w9 b9 g9))
        refine bodyPost_ret (results_cell3s rfl _ _ _ ⟨w.heap.size + 1 + 1, 0, none⟩ _ (.slice none 0 0) (.int .i64 11) rfl (BxS.load (t := 29) b9 Try.underlying29 i6) rfl rfl) rfl ?_
        exact stA_zero w w9 11 (grown_far G6 g9 (fun q e => by have e : w.heap.size + 1 + 1 = q := Option.some.inj e; omega))
    · rw [hq] at hEE
      have hEE : stE F G D vn = 0 := hEE
      rw [hEE, show stV F G D Vs he le 0 = tiV F G Vs D he le from rfl, show stL F G D Vs he le 0 = naL F G.sa (tiV F G Vs D he le).sf (tiP F G Vs D he).2 (!D.sf) from rfl]
      obtain ⟨hq1, hq2⟩ : vmB F G.n D G.si G.wi = true ∧ amN F vn G.n = true := by simpa using hq
      have hvm := hq1
      unfold vmB mmB tmB at hvm
      simp only [Bool.and_eq_true, decide_eq_true_eq] at hvm
      obtain ⟨⟨⟨⟨⟨hbl, hpl⟩, hms⟩, hqk⟩, htl, htn⟩, _⟩ := hvm
      have hqk := kwB_ok hqk
      have hbd : ∀ k, k < G.n → 0 ≤ nthI D.bd k ∧ nthI D.bd k ≤ 1000 ∧ 0 ≤ (F k).fr ∧ (F k).fr ≤ 1000 := fun k hk => by
        have := msN_at F D.bd D.tp G.n hms k hk
        have := hmo k hk
        omega
      have htr : ∀ k, k < D.tr.length → 0 ≤ nthI D.tr k ∧ nthI D.tr k ≤ 1000000 := fun k hk => by
        have := trN_at D.tr G.wi _ htn k hk
        omega
      have hof : ∀ k, k < G.n → 0 ≤ (F k).of' ∧ (F k).of' < (vn : Int) := fun k hk => ⟨(hmo k hk).1.1, amN_at F vn G.n hq2 k hk⟩
      have kW := fun wz (hz : RdVg wz A D) => atWork_any G A D wz hz (by omega) (by omega) (by omega)
      unfold vgA at kW
      have kT := fun (ws wz : World) (g : Nat) (A' : Va) (h : WV ws wz g G A' D none 0 0 []) (h1 : RdM ws G.ma G.n G.mc F) (h2 : RdX ws va vn vc (zys Vs)) => tick_any ws g G A' D none 0 0 F va vn vc Vs he le wz h h1 h2 hn hpl hbl htl hqk.1 (by omega) hs0 (by omega) htr hbd hof
      have hmem : ∀ z, z ∈ (tiP F G Vs D he).2 → ∃ j : Nat, j < G.n ∧ z = (j : Int) := (tkP_inv F Vs (grV D G he) (by unfold grV grL; exact Nat.le_trans (fkL_len _ _ _) htl) G.n).2.2.2.2.2.2.1
      have hfl : (tiP F G Vs D he).2.length ≤ G.n := (tkP_inv F Vs (grV D G he) (by unfold grV grL; exact Nat.le_trans (fkL_len _ _ _) htl) G.n).2.2.2.2.2.1
      have kN := fun (ws wz : World) (g : Nat) (A' : Va) (fa : Option Addr) (fn fc : Nat) (h : WV ws wz g G A' (tiV F G Vs D he le) fa fn fc (tiP F G Vs D he).2) (h1 : RdM ws G.ma G.n G.mc F) => names_any ws g G A' (tiV F G Vs D he le) fa fn fc (tiP F G Vs D he).2 F (!D.sf) wz h h1 hn (by omega) hmem
      rw [hq1] at kV
      rw [hq2] at kM
      generalize tiV F G Vs D he le = D' at *
      generalize (tiP F G Vs D he).2 = Fr at *
      generalize hLL : naL F G.sa D'.sf Fr (!D.sf) = LL at *
      clear hLL hq hEE hE hmo hq1 hq2 hbl hpl hms hqk htl htn hbd htr hof hmem hfl
      have s1 : True := trivial
      go_enter Try.func17, Try.ntmps17
      go_wp2_with (first
        | (go_at_call 9; refine hC.mono ?_; rintro e w3 ⟨rfl, g3⟩; clear c0 c1 c2 c3 c4; have gf := World.grownBy_alloc w3 (.cells #[.int .i64 0, .int .i64 (At : Int)] 34) none; have g4 := grown_trans g3 gf; have r0 := p0.keep g4 (by simp); have r1 := p1.keep g4 (by simp); have r2 := b2.keep g4 (by simp); obtain ⟨c0, c1, c2, c3, c4⟩ := r0.cell5; obtain ⟨d0, d1, d2, d3, d4, d5⟩ := r1.cell6; have G4 := grown_trans G2 g4; have hM4 := hM.keep G4; have hV4 := hV.keep G4; have hX4 := hX.keep G4; clear s1; have s2 : True := trivial)
        | (go_at_call 30; refine (kV _ hM4 hV4).mono ?_; rintro e w5 ⟨rfl, g5⟩; clear c0 c1 c2 c3 c4 d0 d1 d2 d3 d4 d5; have t0 := r0.keep g5 (by simp); have t1 := r1.keep g5 (by simp); have t2 := r2.keep g5 (by simp); obtain ⟨c0, c1, c2, c3, c4⟩ := t0.cell5; obtain ⟨d0, d1, d2, d3, d4, d5⟩ := t1.cell6; have G5 := grown_trans G4 g5)
        | (go_at_call 31; refine (kM _ (hM.keep G5)).mono ?_; rintro e w6 ⟨rfl, g6⟩; clear c0 c1 c2 c3 c4 d0 d1 d2 d3 d4 d5; have x0 := t0.keep g6 (by simp); have x1 := t1.keep g6 (by simp); have x2 := t2.keep g6 (by simp); obtain ⟨c0, c1, c2, c3, c4⟩ := x0.cell5; obtain ⟨d0, d1, d2, d3, d4, d5⟩ := x1.cell6; have G6 := grown_trans G5 g6)
        | (go_at_call 32; refine (kW _ (hV.keep G6)).mono ?_; rintro e w7 ⟨g, A7, rfl, h7⟩; clear c0 c1 c2 c3 c4 d0 d1 d2 d3 d4 d5)
        | (go_at_call 33; refine (kT _ _ _ _ h7 (hM.keep G6) (hX.keep G6)).mono ?_; rintro e w8 ⟨rfl, A8, fa8, fn8, fc8, h8⟩))
      have x1' : BxS w8 (w.heap.size + 1) 29 #[.bool D.sf, .int .i64 D.wy, .slice A.ab A.nb A.cb, .slice A.ap A.np A.cp, .int .i64 D.qu, .slice A.at' A.nt A.ct] := x1.fz h8.L (fun h => by have := x1.lt; omega)
      have x2' : BxS w8 (w.heap.size + 1 + 1) 29 #[.bool false, .int .i64 0, .slice none 0 0, .slice none 0 0, .int .i64 0, .slice none 0 0] := x2.fz h8.L (fun h => by have := x2.lt; omega)
      have lt2 := x2.lt
      have bx8 := h8.box
      unfold wvA at bx8
      have hN := fun wz (hz : w8.grownBy wz none) => kN w6 wz g A8 fa8 fn8 fc8 (h8.keep hz) (hM.keep G6)
      have G8 : w.grownBy w8 none := Fz.grown G6 h8.L (fun i hi => Nat.le_trans G6.size hi)
      have SS := grown_drew w8 none
      clear kN kT kW kV kM hC
      refine wp_regionL (fun wz => w8.grownBy wz none) [9, 10, 11] #[false, false, false, false, false, false, false, false, false, false, false, false] rfl (by kernel_rfl) ?_
      refine wpAnyZ_take [1, 2, 3, 9, 10, 11] 0 (.pointer (some ⟨g, 0, none⟩)) rfl (by kernel_rfl) (fun _ _ _ h => h) SS rfl (by intro wz hz; obtain ⟨z0, z1, z2, z3, z4, z5, z6, z7, z8, z9, z10, z11⟩ := (bx8.keep hz (by simp)).cell12; obtain ⟨y0, y1, y2, y3, y4, y5⟩ := (x1'.keep hz (by simp)).cell6; go_simp) ?_
      try simp only [List.getElem_toArray, List.getElem_cons_succ, List.getElem_cons_zero, Act.put, List.setIfInBounds_toArray, List.set_cons_zero, List.set_cons_succ]
      refine wpAnyZ_take [2, 3, 9, 10, 11] 1 (.pointer (some ⟨g, 0, none⟩)) rfl (by kernel_rfl) (fun _ _ _ h => h) SS rfl (by intro wz hz; obtain ⟨z0, z1, z2, z3, z4, z5, z6, z7, z8, z9, z10, z11⟩ := (bx8.keep hz (by simp)).cell12; obtain ⟨y0, y1, y2, y3, y4, y5⟩ := (x1'.keep hz (by simp)).cell6; go_simp) ?_
      try simp only [List.getElem_toArray, List.getElem_cons_succ, List.getElem_cons_zero, Act.put, List.setIfInBounds_toArray, List.set_cons_zero, List.set_cons_succ]
      refine wpAnyZ_take [3, 9, 10, 11] 2 (.pointer (some ⟨g, 0, none⟩)) rfl (by kernel_rfl) (fun _ _ _ h => h) SS rfl (by intro wz hz; obtain ⟨z0, z1, z2, z3, z4, z5, z6, z7, z8, z9, z10, z11⟩ := (bx8.keep hz (by simp)).cell12; obtain ⟨y0, y1, y2, y3, y4, y5⟩ := (x1'.keep hz (by simp)).cell6; go_simp) ?_
      try simp only [List.getElem_toArray, List.getElem_cons_succ, List.getElem_cons_zero, Act.put, List.setIfInBounds_toArray, List.set_cons_zero, List.set_cons_succ]
      refine wpAnyZ_take [9, 10, 11] 3 (.agg #[.bool D'.sf, .int .i64 D'.wy, .slice A8.ab A8.nb A8.cb, .slice A8.ap A8.np A8.cp, .int .i64 D'.qu, .slice A8.at' A8.nt A8.ct]) rfl (by kernel_rfl) (fun _ _ _ h => h) SS rfl (by intro wz hz; obtain ⟨z0, z1, z2, z3, z4, z5, z6, z7, z8, z9, z10, z11⟩ := (bx8.keep hz (by simp)).cell12; obtain ⟨y0, y1, y2, y3, y4, y5⟩ := (x1'.keep hz (by simp)).cell6; go_simp) ?_
      try simp only [List.getElem_toArray, List.getElem_cons_succ, List.getElem_cons_zero, Act.put, List.setIfInBounds_toArray, List.set_cons_zero, List.set_cons_succ]
      refine wpAnyZ_take [8, 9, 10, 11] 4 (.pointer (some ⟨g, 0, none⟩)) rfl (by kernel_rfl) (fun _ _ _ h => h) SS rfl (by intro wz hz; obtain ⟨z0, z1, z2, z3, z4, z5, z6, z7, z8, z9, z10, z11⟩ := (bx8.keep hz (by simp)).cell12; obtain ⟨y0, y1, y2, y3, y4, y5⟩ := (x1'.keep hz (by simp)).cell6; go_simp) ?_
      try simp only [List.getElem_toArray, List.getElem_cons_succ, List.getElem_cons_zero, Act.put, List.setIfInBounds_toArray, List.set_cons_zero, List.set_cons_succ]
      refine wpAnyZ_take [6, 7, 8, 9, 10, 11] 5 (.pointer (some ⟨w.heap.size + 1, 0, none⟩)) rfl (by kernel_rfl) (fun _ _ _ h => h) SS rfl (by intro wz hz; obtain ⟨z0, z1, z2, z3, z4, z5, z6, z7, z8, z9, z10, z11⟩ := (bx8.keep hz (by simp)).cell12; obtain ⟨y0, y1, y2, y3, y4, y5⟩ := (x1'.keep hz (by simp)).cell6; go_simp) ?_
      try simp only [List.getElem_toArray, List.getElem_cons_succ, List.getElem_cons_zero, Act.put, List.setIfInBounds_toArray, List.set_cons_zero, List.set_cons_succ]
      refine wpAnyZ_take [7, 8, 9, 10, 11] 6 (.bool D.sf) rfl (by kernel_rfl) (fun _ _ _ h => h) SS rfl (by intro wz hz; obtain ⟨z0, z1, z2, z3, z4, z5, z6, z7, z8, z9, z10, z11⟩ := (bx8.keep hz (by simp)).cell12; obtain ⟨y0, y1, y2, y3, y4, y5⟩ := (x1'.keep hz (by simp)).cell6; go_simp) ?_
      try simp only [List.getElem_toArray, List.getElem_cons_succ, List.getElem_cons_zero, Act.put, List.setIfInBounds_toArray, List.set_cons_zero, List.set_cons_succ]
      refine wpAnyZ_take [8, 9, 10, 11] 7 (.bool (!D.sf)) rfl (by kernel_rfl) (fun _ _ _ h => h) SS rfl (by intro wz hz; obtain ⟨z0, z1, z2, z3, z4, z5, z6, z7, z8, z9, z10, z11⟩ := (bx8.keep hz (by simp)).cell12; obtain ⟨y0, y1, y2, y3, y4, y5⟩ := (x1'.keep hz (by simp)).cell6; go_simp) ?_
      try simp only [List.getElem_toArray, List.getElem_cons_succ, List.getElem_cons_zero, Act.put, List.setIfInBounds_toArray, List.set_cons_zero, List.set_cons_succ]
      refine wpAnyZ_oneB 8 rfl (by kernel_rfl) (fun K hK => ?_)
      go_simp
      go_at_call 34
      refine (hN _ SS).mono ?_
      rintro e wN ⟨na, nn, nc, rfl, AN, gN⟩
      dsimp only
      have SN := grown_trans SS gN
      refine hK _ _ (fun _ => SN) ?_
      try simp only [List.getElem_toArray, List.getElem_cons_succ, List.getElem_cons_zero, Act.put, List.setIfInBounds_toArray, List.set_cons_zero, List.set_cons_succ]
      refine wpAnyZ_oneB 9 rfl (by kernel_rfl) (fun K hK => ?_)
      refine step_stX _ rfl 29 (.tmp 10) (.tmp 47) rfl (w.heap.size + 1 + 1) _ _ rfl rfl (x2'.keep SN (by simp)) i6 rfl (by simp [Value.oneCell']) ?_
      intro w9 b9 g9
      refine hK _ _ (fun h => absurd (by decide) h) ?_
      try simp only [List.getElem_toArray, List.getElem_cons_succ, List.getElem_cons_zero, Act.put, List.setIfInBounds_toArray, List.set_cons_zero, List.set_cons_succ]
      refine wpAnyZ_takeF 10 (.slice na nn nc) rfl (by kernel_rfl) (fun _ _ _ h => h) rfl (by intro wz; go_simp) ?_
      try simp only [List.getElem_toArray, List.getElem_cons_succ, List.getElem_cons_zero, Act.put, List.setIfInBounds_toArray, List.set_cons_zero, List.set_cons_succ]
      refine wpAnyZ_takeF 11 (.int .i64 0) rfl (by kernel_rfl) (fun _ _ _ h => h) rfl (by intro wz; go_simp) ?_
      try simp only [List.getElem_toArray, List.getElem_cons_succ, List.getElem_cons_zero, Act.put, List.setIfInBounds_toArray, List.set_cons_zero, List.set_cons_succ]
      refine wpAnyZ_doneB (by kernel_rfl) ?_ _
      go_wp2
      refine bodyPost_ret (results_cell3s rfl _ _ _ ⟨w.heap.size + 1 + 1, 0, none⟩ _ (.slice na nn nc) (.int .i64 0) rfl (BxS.load (t := 29) b9 Try.underlying29 i6) rfl rfl) rfl ?_
      have sz6 := G6.size
      have sz8 := h8.L.size
      have hv := (h8.v.keep SN).fz (Fz.of g9) (fun i hi e => by have := h8.v.lo i hi; have e : w.heap.size + 1 + 1 = i := Option.some.inj e; omega)
      refine ⟨A8, na, nn, nc, rfl, ⟨hv.b.low sz6, hv.p.low sz6, hv.t.low sz6, hv.ne⟩, ?_, grown_far (grown_trans G8 SN) g9 (fun q e => by have e : w.heap.size + 1 + 1 = q := Option.some.inj e; omega)⟩
      exact (AN.kept g9 (ne_of_some (fun x e e2 => by have h1 := AN.new x e; have h2 : w8.heap.size ≤ x := h1; have e2 : w.heap.size + 1 + 1 = x := Option.some.inj e2; omega))).low G8.size
  · have hEE : stE F G D vn = (gfP F G.n G.si G.mo G.wi G.sa).1 := if_neg hE
    generalize gfP F G.n G.si G.mo G.wi G.sa = p at *
    obtain ⟨E, At⟩ := p
    dsimp only at hE hEE hC
    rw [hEE, show stV F G D Vs he le E = vi0 from if_neg hE, show stL F G D Vs he le E = [] from if_neg hE]
    have hE' : ((E : Int) != 0) = true := by simp; omega
    clear hEE
    have s1 : True := trivial
    go_enter Try.func17, Try.ntmps17
    go_wp2_with (first | (go_at_call 9; refine hC.mono ?_; rintro e w3 ⟨rfl, g3⟩; clear c0 c1 c2 c3 c4; have gf := World.grownBy_alloc w3 (.cells #[.int .i64 (E : Int), .int .i64 (At : Int)] 34) none; have g4 := grown_trans g3 gf; have r0 := p0.keep g4 (by simp); have r1 := p1.keep g4 (by simp); have r2 := b2.keep g4 (by simp); obtain ⟨c0, c1, c2, c3, c4⟩ := r0.cell5; obtain ⟨d0, d1, d2, d3, d4, d5⟩ := r1.cell6; have G4 := grown_trans G2 g4; have hM4 := hM.keep G4; have hV4 := hV.keep G4; have hX4 := hX.keep G4; clear s1; have s2 : True := trivial))
    have bf := BxS.new w3 34 #[.int .i64 (E : Int), .int .i64 (At : Int)]
    have cf := bf.cell 0 (by show 0 < 2; decide)
    have hlt3 := g3.size
    generalize w3.alloc (.cells #[.int .i64 (E : Int), .int .i64 (At : Int)] 34) = w4 at *
    change w4.cell? ⟨w3.heap.size, 0, none⟩ = some (.int .i64 (E : Int)) at cf
    refine wp_regionL (fun wz => wz.cell? ⟨w3.heap.size, 0, none⟩ = some (.int .i64 (E : Int)) ∧ BxS wz (w.heap.size + 1 + 1) 29 #[.bool false, .int .i64 0, .slice none 0 0, .slice none 0 0, .int .i64 0, .slice none 0 0]) [] #[false, false, false, false, false, false] rfl (by kernel_rfl) ?_
    refine wpAnyZ_take [] 0 (.agg #[.bool false, .int .i64 0, .slice none 0 0, .slice none 0 0, .int .i64 0, .slice none 0 0]) rfl (by kernel_rfl) (fun _ _ _ h => h) ⟨cf, r2⟩ rfl (by rintro wz ⟨z0, z1⟩; go_simp) ?_
    try simp only [List.getElem_toArray, List.getElem_cons_succ, List.getElem_cons_zero, Act.put, List.setIfInBounds_toArray, List.set_cons_zero, List.set_cons_succ]
    refine wpAnyZ_take [] 1 (.pointer (some ⟨w3.heap.size, 0, none⟩)) rfl (by kernel_rfl) (fun _ _ _ h => h) ⟨cf, r2⟩ rfl (by rintro wz ⟨z0, z1⟩; go_simp) ?_
    try simp only [List.getElem_toArray, List.getElem_cons_succ, List.getElem_cons_zero, Act.put, List.setIfInBounds_toArray, List.set_cons_zero, List.set_cons_succ]
    refine wpAnyZ_take [] 2 (.int .i64 (E : Int)) rfl (by kernel_rfl) (fun _ _ _ h => h) ⟨cf, r2⟩ rfl (by rintro wz ⟨z0, z1⟩; go_simp) ?_
    try simp only [List.getElem_toArray, List.getElem_cons_succ, List.getElem_cons_zero, Act.put, List.setIfInBounds_toArray, List.set_cons_zero, List.set_cons_succ]
    refine wpAnyZ_oneB 3 rfl (by kernel_rfl) (fun K hK => ?_)
    refine step_stX _ rfl 29 (.tmp 10) (.tmp 20) rfl (w.heap.size + 1 + 1) _ _ rfl rfl r2 i6 rfl (by simp [Value.oneCell']) ?_
    intro w9 b9 g9
    have cf9 : w9.cell? ⟨w3.heap.size, 0, none⟩ = some (.int .i64 (E : Int)) := ((bf.keep (grown_drew w4 none) (by simp)).keep g9 (fun e => by have := Option.some.inj e; omega)).cell 0 (by show 0 < 2; decide)
    refine hK _ _ (fun _ => ⟨cf9, b9⟩) ?_
    try simp only [List.getElem_toArray, List.getElem_cons_succ, List.getElem_cons_zero, Act.put, List.setIfInBounds_toArray, List.set_cons_zero, List.set_cons_succ]
    refine wpAnyZ_take [] 4 (.slice none 0 0) rfl (by kernel_rfl) (fun _ _ _ h => h) ⟨cf9, b9⟩ rfl (by rintro wz ⟨z0, z1⟩; go_simp) ?_
    try simp only [List.getElem_toArray, List.getElem_cons_succ, List.getElem_cons_zero, Act.put, List.setIfInBounds_toArray, List.set_cons_zero, List.set_cons_succ]
    refine wpAnyZ_take [] 5 (.int .i64 (E : Int)) rfl (by kernel_rfl) (fun _ _ _ h => h) ⟨cf9, b9⟩ rfl (by rintro wz ⟨z0, z1⟩; go_simp) ?_
    try simp only [List.getElem_toArray, List.getElem_cons_succ, List.getElem_cons_zero, Act.put, List.setIfInBounds_toArray, List.set_cons_zero, List.set_cons_succ]
    refine wpAnyZ_doneB (by kernel_rfl) ?_ _
    go_wp2
    refine bodyPost_ret (results_cell3s rfl _ _ _ ⟨w.heap.size + 1 + 1, 0, none⟩ _ (.slice none 0 0) (.int .i64 (E : Int)) rfl (BxS.load (t := 29) b9 Try.underlying29 i6) rfl rfl) rfl ?_
    exact stA_zero w w9 E (grown_far (grown_trans G4 (grown_drew w4 none)) g9 (fun q e => by have e : w.heap.size + 1 + 1 = q := Option.some.inj e; omega))
end Go.Proofs.Ytnpkmjdlohdieaa
