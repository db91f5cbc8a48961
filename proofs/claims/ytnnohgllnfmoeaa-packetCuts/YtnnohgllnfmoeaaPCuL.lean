import Derived.Test.YtnnohgllnfmoeaaPCu7
namespace Go.Proofs.Ytnnohgllnfmoeaa
open Go.RowKit
set_option maxRecDepth 100000
set_option linter.unusedVariables false
set_option linter.unusedSimpArgs false

set_option maxHeartbeats 16000000 in
theorem pcut_bad (up : Bool) (ap ct : Int) (a : Option Addr) (n c : Nat) (mo : Int) (L : List Nat) (w : World) (hL : Rd w a n c L) (hn : n ≤ 140737488351232) (hE : cuE ap ct n mo ≠ 0) :
    Calls Try.prog 3 #[.bool up, .int .i64 ap, .int .i64 ct, .slice a n c, .int .i64 mo] w fun e w' => e = .returned (.bool true) ∧ Below w.heap.size w w' := by
  have hP := fun wz hz => pieces_bad up ap ct a n c mo L wz hz hE
  have hQ := fun (az : Option Addr) (cz : Nat) wz hz => cut_bad up ap ct az n cz mo L wz hz hE
  generalize cuE ap ct n mo = E at hP hQ
  have t1 : True := trivial
  go_enter Try.func3, Try.ntmps3
  go_wp2_with (first
    | (go_at_call 5; have _t := t1; clear t1; with_reducible refine (roomy_any a n c L w hL hn).mono ?_; rintro e w1 ⟨rfl, ⟨Dh, hh1⟩, g1⟩; have hR1 := hL.keep g1; have t2 : True := trivial)
    | (go_at_call 6; have _t := t2; clear t2; with_reducible refine (hP w1 hR1).mono ?_; rintro e w' ⟨rfl, hw'⟩; replace hw' := hw'.symm; subst hw'; have hH1 := hh1.rd hL.byte hL.len hn; have t3 : True := trivial)
    | (go_at_call 7; have _t := t3; clear t3; with_reducible refine (hQ _ _ w1 hH1).mono ?_; rintro e w3 ⟨rfl, g3⟩; have t4 : True := trivial)
    | (go_at_call 7; have _t := t4; clear t4; with_reducible refine (hQ _ _ w3 (hH1.keep g3)).mono ?_; rintro e w4 ⟨rfl, g4⟩; have g34 := grown_trans g3 g4; have t5 : True := trivial)
    | (go_at_call 8; have _t := t5; clear t5; with_reducible refine (left_any w.heap.size a n c L Dh w4 (hh1.keep g34) (hR1.keep g34) hn).mono ?_; rintro e w5 ⟨rfl, g5⟩; have g35 := grown_trans g34 g5; have t6 : True := trivial)
    | (go_at_call 9; have _t := t6; clear t6; with_reducible refine (spoil_any ((hh1.keep g35).ans (lo := w.heap.size) hL.byte hL.len hn (Nat.le_refl _)) (by omega)).mono ?_; rintro e w6 ⟨rfl, g6⟩))
  have G6 := grown_far (grown_trans g1 g35) g6 (fun g e => by have e2 : w.heap.size = g := Option.some.inj e; omega)
  go_loopw [18] (fun i wr => i = .int .i64 0 ∧ wr = w6) (fun i _ => 0)
  case atStart => exact ⟨rfl, rfl⟩
  case round =>
    obtain ⟨rfl, hwr⟩ := hrel
    replace hwr := hwr.symm
    subst hwr
    go_wp2
    go_loopw [19] (fun i wr => i = .int .i64 0 ∧ wr = w6) (fun i _ => 0)
    case atStart => exact ⟨rfl, rfl⟩
    case round =>
      obtain ⟨rfl, hwr⟩ := hrel
      replace hwr := hwr.symm
      subst hwr
      go_wp2
      go_ret
      exact ⟨rfl, (Below.refl _ _).grown G6 (Nat.le_refl _) (fun k hk => by cases hk)⟩
set_option maxHeartbeats 16000000 in
theorem pcut_ok (up : Bool) (ap : Int) (ct : Nat) (b off n c M : Nat) (L : List Nat) (w : World) (hL : Rd w (some ⟨b, off, none⟩) n c L) (hap : 0 ≤ ap ∧ ap ≤ 2046) (hct : ct ≤ 16383) (hn1 : 1 ≤ n) (hn2 : n ≤ 1048576) (hM1 : 1 ≤ M) (hM2 : M ≤ 65536) (hpc : pcN n M ≤ 16384) :
    Calls Try.prog 3 #[.bool up, .int .i64 ap, .int .i64 (ct : Int), .slice (some ⟨b, off, none⟩) n c, .int .i64 (M : Int)] w fun e w' => e = .returned (.bool true) ∧ Below w.heap.size w w' := by
  have hP := fun wz hz => pieces_ok up ap ct b off n c M L wz hz hap hct hn1 hn2 hM1 hM2 hpc
  have hQ := fun (gz cz : Nat) wz hz => cut_ok up ap ct gz 0 n cz M L wz hz hap hct hn1 hn2 hM1 hM2 hpc
  have hpos := pcN_lt n M 0 hM1 (by omega)
  have hn : n ≤ 140737488351232 := by omega
  generalize pcN n M = pc at hP hQ hpc hpos
  have t1 : True := trivial
  go_enter Try.func3, Try.ntmps3
  go_wp2_with (first
    | (go_at_call 5; have _t := t1; clear t1; with_reducible refine (roomy_any (some ⟨b, off, none⟩) n c L w hL hn).mono ?_; rintro e w1 ⟨rfl, ⟨Dh, hh1⟩, g1⟩; have hR1 := hL.keep g1; have t2 : True := trivial)
    | (go_at_call 6; have _t := t2; clear t2; with_reducible refine (hP w1 hR1).mono ?_; rintro e w2 ⟨aw, cw, pw, rfl, hOw, hPw, g2⟩; have hH2 := (hh1.rd hL.byte hL.len hn).keep g2; have t3 : True := trivial)
    | (go_at_call 7; have _t := t3; clear t3; with_reducible refine (hQ _ _ w2 hH2).mono ?_; rintro e w3 ⟨aa, ca, pa, rfl, hOa, hPa, g3⟩; have t4 : True := trivial)
    | (go_at_call 7; have _t := t4; clear t4; with_reducible refine (hQ _ _ w3 (hH2.keep g3)).mono ?_; rintro e w4 ⟨ab, cb, pb, rfl, hOb, hPb, g4⟩; have g34 := grown_trans g2 (grown_trans g3 g4); have t5 : True := trivial)
    | (go_at_call 8; have _t := t5; clear t5; with_reducible refine (left_any w.heap.size (some ⟨b, off, none⟩) n c L Dh w4 (hh1.keep g34) (hR1.keep g34) hn).mono ?_; rintro e w5 ⟨rfl, g5⟩; have g35 := grown_trans g34 g5; have t6 : True := trivial)
    | (go_at_call 9; have _t := t6; clear t6; with_reducible refine (spoil_any ((hh1.keep g35).ans (lo := w.heap.size) hL.byte hL.len hn (Nat.le_refl _)) (by omega)).mono ?_; rintro e w6 ⟨rfl, g6⟩))
  have hAh := (hh1.keep g35).ans (lo := w.heap.size) hL.byte hL.len hn (Nat.le_refl _)
  have hlt1 := hh1.blk.lt
  have G6 := grown_far (grown_trans g1 g35) g6 (fun g e => by have e2 : w.heap.size = g := Option.some.inj e; omega)
  have s2 := g2.size
  have s3 := g3.size
  have s4 := g4.size
  have s5 := g5.size
  have hneH : ∀ {lo' : Nat} {a' : Option Addr} {n' c' : Nat} {L' : List Nat}, Ans w5 lo' a' n' c' L' → w1.heap.size ≤ lo' → (Value.slice a' n' c').ownBlock = none ∨ (Value.slice a' n' c').ownBlock ≠ (Value.slice (some ⟨w.heap.size, 0, none⟩) n (n + 5)).ownBlock := by
    intro lo' a' n' c' L' h hl
    refine .inr fun e => ?_
    have := h.new w.heap.size e
    omega
  have hOw5 := (hOw.keep (grown_trans (grown_trans g3 g4) g5))
  have hOa5 := (hOa.keep (grown_trans g4 g5))
  have hOb5 := (hOb.keep g5)
  have Ow := hOw5.kept hAh g6 (fun i hi => hneH (hOw5.data i hi) (Nat.le_refl _))
  have Oa := hOa5.kept hAh g6 (fun i hi => hneH (hOa5.data i hi) s2)
  have Ob := hOb5.kept hAh g6 (fun i hi => hneH (hOb5.data i hi) (Nat.le_trans s2 s3))
  have naw : ∀ i (hi : i < pa.length) j (hj : j < pw.length), (Value.slice pw[j].a pw[j].n pw[j].c).ownBlock = none ∨ (Value.slice pw[j].a pw[j].n pw[j].c).ownBlock ≠ (Value.slice pa[i].a pa[i].n pa[i].c).ownBlock := fun i hi j hj => ans_below (hOw.data j hj) (hOa.data i hi) (Nat.le_refl _)
  have nab : ∀ i (hi : i < pa.length) j (hj : j < pb.length), (Value.slice pb[j].a pb[j].n pb[j].c).ownBlock = none ∨ (Value.slice pb[j].a pb[j].n pb[j].c).ownBlock ≠ (Value.slice pa[i].a pa[i].n pa[i].c).ownBlock := fun i hi j hj => flip_ne (ans_below (hOa.data i hi) (hOb.data j hj) (Nat.le_refl _))
  have lw := hOw.own.len
  have la := hOa.own.len
  have lb := hOb.own.len
  have la0 : ∀ i (hi : i < pa.length), w.heap.size ≤ w2.heap.size := fun _ _ => by omega
  obtain ⟨gw, rfl⟩ := Ow.own.some hpos
  obtain ⟨ga, rfl⟩ := Oa.own.some hpos
  obtain ⟨gb, rfl⟩ := Ob.own.some hpos
  clear hOw5 hOa5 hOb5 hAh hneH hOw hOa hOb hP hQ hh1 hH2 g1 g2 g3 g4 g5 g34 g35 g6 hR1
  go_loopw [18] (fun i wr => ∃ k : Nat, k ≤ pc ∧ i = .int .i64 (k : Int) ∧ OwD wr w1.heap.size (some ⟨gw, 0, none⟩) pc cw pw ∧ OwD wr w3.heap.size (some ⟨gb, 0, none⟩) pc cb pb ∧ OwP wr w2.heap.size (some ⟨ga, 0, none⟩) pc ca pa ∧ (∀ i (hi : i < pa.length), k ≤ i → Ans wr w2.heap.size pa[i].a pa[i].n pa[i].c pa[i].D) ∧ w.grownBy wr none) (fun i _ => pc - (intOf i).toNat)
  case atStart => exact ⟨0, by omega, rfl, Ow, Ob, Oa.own, fun i hi _ => Oa.data i hi, G6⟩
  case round =>
    obtain ⟨k, hk, rfl, Ow', Ob', Oa', hAns, hgr⟩ := hrel
    have apa := Oa.apart
    by_cases hlt : k < pc
    · have l1 : (k : Int) < (pc : Int) := by omega
      have ltw : gw < wr.heap.size := by rcases Ow'.own.cases with ⟨h, _⟩ | ⟨g, h, _, h2⟩ <;> cases h; exact h2
      have ltx : ga < wr.heap.size := by rcases Oa'.cases with ⟨h, _⟩ | ⟨g, h, _, h2⟩ <;> cases h; exact h2
      have hAk := hAns k (by omega) (Nat.le_refl _)
      have hlenk := hAk.len
      obtain ⟨p0, p1, p2, p3, p4, p5⟩ := Oa'.six k (by omega)
      obtain ⟨q0, q1, q2, q3, q4, q5⟩ := Ow'.own.six k (by omega)
      obtain ⟨e0, e1, e2, e3, e4, e5⟩ := hPa k (by omega)
      obtain ⟨f0, f1, f2, f3, f4, f5⟩ := hPw k (by omega)
      have rA := (hAk).rd
      have rW := (Ow'.data k (by omega)).rd
      rw [e5] at rA
      rw [f5] at rW
      rw [e0] at p0
      rw [e1] at p1
      rw [e2] at p2
      rw [e3] at p3
      rw [e4] at p4
      rw [f0] at q0
      rw [f1] at q1
      rw [f2] at q2
      rw [f3] at q3
      rw [f4] at q4
      clear e0 e1 e2 e3 e4 e5 f0 f1 f2 f3 f4 f5
      have hDl : ((L.drop (k * M)).take M).length ≤ 65536 := by rw [List.length_take]; omega
      have hnk := rA.len
      have hnew : ∀ g, (Value.slice pa[k].a pa[k].n pa[k].c).ownBlock = some g → w.heap.size ≤ g := fun g hg => Nat.le_trans (by omega) (hAk.new g hg)
      have nw1 := naw k (by omega)
      have nb1 := nab k (by omega)
      have hkl : k < pa.length := by omega
      have na1 : ∀ j (hj : j < pa.length), k + 1 ≤ j → (Value.slice pa[j].a pa[j].n pa[j].c).ownBlock = none ∨ (Value.slice pa[j].a pa[j].n pa[j].c).ownBlock ≠ (Value.slice (pa[k]'hkl).a (pa[k]'hkl).n (pa[k]'hkl).c).ownBlock := fun j hj hkj => .inr (fun e => apa k j (by omega) hj hkj e.symm)
      clear hlenk
      generalize pa[k].a = xa at *
      generalize pa[k].n = na at *
      generalize pa[k].c = ca' at *
      generalize pw[k].a = xw at *
      generalize pw[k].n = nw at *
      generalize pw[k].c = cw' at *
      generalize pa[k].D = DA at *
      generalize (L.drop (k * M)).take M = DD at *
      generalize ((ptN k pc : Nat) : Int) = pt at *
      generalize (((ct + k) % 16384 : Nat) : Int) = ctk at *
      have hSA := fun wz ha hb => samePacket_any up false ap pt ctk xa xw na nw ca' cw' DD wz ha hb
      unfold pkV at hSA
      have CK : ∀ wz, wr.grownBy wz none → (wz.cell? ⟨ga, k * 6, none⟩ = some (.bool up) ∧ wz.cell? ⟨ga, k * 6 + 1, none⟩ = some (.bool false) ∧ wz.cell? ⟨ga, k * 6 + 2, none⟩ = some (.int .i64 ap) ∧ wz.cell? ⟨ga, k * 6 + 3, none⟩ = some (.int .i64 pt) ∧ wz.cell? ⟨ga, k * 6 + 4, none⟩ = some (.int .i64 ctk) ∧ wz.cell? ⟨ga, k * 6 + 5, none⟩ = some (.slice xa na ca') ∧ wz.cell? ⟨gw, k * 6, none⟩ = some (.bool up) ∧ wz.cell? ⟨gw, k * 6 + 1, none⟩ = some (.bool false) ∧ wz.cell? ⟨gw, k * 6 + 2, none⟩ = some (.int .i64 ap) ∧ wz.cell? ⟨gw, k * 6 + 3, none⟩ = some (.int .i64 pt) ∧ wz.cell? ⟨gw, k * 6 + 4, none⟩ = some (.int .i64 ctk) ∧ wz.cell? ⟨gw, k * 6 + 5, none⟩ = some (.slice xw nw cw')) := by
        intro wz hz
        have hc : ∀ g j v, g < wr.heap.size → wr.cell? ⟨g, j, none⟩ = some v → wz.cell? ⟨g, j, none⟩ = some v := fun g j v hg hv => by have hb := hz.block g hg (by simp); simp only [World.cell?, hb] at hv ⊢; exact hv
        exact ⟨hc _ _ _ ltx p0, hc _ _ _ ltx p1, hc _ _ _ ltx p2, hc _ _ _ ltx p3, hc _ _ _ ltx p4, hc _ _ _ ltx p5, hc _ _ _ ltw q0, hc _ _ _ ltw q1, hc _ _ _ ltw q2, hc _ _ _ ltw q3, hc _ _ _ ltw q4, hc _ _ _ ltw q5⟩
      have CK0 := CK _ (grown_drew wr none)
      have HCK : Hid (∀ wz, wr.grownBy wz none → _) := CK
      clear CK p0 p1 p2 p3 p4 q0 q1 q2 q3 q4 q5
      go_wp2
      go_region_held3 (fun w' => w'.cell? ⟨ga, k * 6, none⟩ = some (.bool up) ∧ w'.cell? ⟨ga, k * 6 + 1, none⟩ = some (.bool false) ∧ w'.cell? ⟨ga, k * 6 + 2, none⟩ = some (.int .i64 ap) ∧ w'.cell? ⟨ga, k * 6 + 3, none⟩ = some (.int .i64 pt) ∧ w'.cell? ⟨ga, k * 6 + 4, none⟩ = some (.int .i64 ctk) ∧ w'.cell? ⟨ga, k * 6 + 5, none⟩ = some (.slice xa na ca') ∧ w'.cell? ⟨gw, k * 6, none⟩ = some (.bool up) ∧ w'.cell? ⟨gw, k * 6 + 1, none⟩ = some (.bool false) ∧ w'.cell? ⟨gw, k * 6 + 2, none⟩ = some (.int .i64 ap) ∧ w'.cell? ⟨gw, k * 6 + 3, none⟩ = some (.int .i64 pt) ∧ w'.cell? ⟨gw, k * 6 + 4, none⟩ = some (.int .i64 ctk) ∧ w'.cell? ⟨gw, k * 6 + 5, none⟩ = some (.slice xw nw cw')) (first | exact CK0 | exact CK7) (first
        | (go_at_call 10; with_reducible refine (hSA _ (rA.keep (grown_drew wr none)) (rW.keep (grown_drew wr none))).mono ?_; rintro e w7 ⟨rfl, g7⟩; have g07 := grown_trans (grown_drew wr none) g7; have CK7 := HCK.out _ g07))
      have p5' := CK7.2.2.2.2.2.1
      have hA7 := hAk.keep g07
      clear CK7 CK0 HCK hSA
      go_wp2_with (first
        | (go_at_call 9; with_reducible refine (spoil_any hA7 (by omega)).mono ?_; rintro e w8 ⟨rfl, g8⟩))
      go_roundw
      case rel => exact ⟨k + 1, by omega, by go_num, (Ow'.keep g07).kept hA7 g8 nw1, (Ob'.keep g07).kept hA7 g8 nb1, (Oa'.keep g07).kept g8 ((Oa'.keep g07).bytes hA7), fun j hj hkj => ((hAns j hj (by omega)).keep g07).kept g8 (na1 j hj hkj), grown_far (grown_trans hgr g07) g8 hnew⟩
      case measure => simp [intOf]; omega
    · have l1 : ¬ ((k : Int) < (pc : Int)) := by omega
      go_wp2
      obtain ⟨wo, hwo⟩ : ∃ wo, wo = wr := ⟨_, rfl⟩
      subst hwo
      go_loopw [19] (fun i wr => ∃ k : Nat, k ≤ pc ∧ i = .int .i64 (k : Int) ∧ wo.grownBy wr none) (fun i _ => pc - (intOf i).toNat)
      case atStart => exact ⟨0, by omega, rfl, World.grownBy.refl _ _⟩
      case round =>
        clear l1 hlt hk
        obtain ⟨k, hk, rfl, hgq⟩ := hrel
        by_cases hlt : k < pc
        · have l1 : (k : Int) < (pc : Int) := by omega
          have Ow2 := Ow'.keep hgq
          have Ob2 := Ob'.keep hgq
          have ltw : gw < wr.heap.size := by rcases Ow2.own.cases with ⟨h, _⟩ | ⟨g, h, _, h2⟩ <;> cases h; exact h2
          have ltx : gb < wr.heap.size := by rcases Ob2.own.cases with ⟨h, _⟩ | ⟨g, h, _, h2⟩ <;> cases h; exact h2
          obtain ⟨p0, p1, p2, p3, p4, p5⟩ := Ob2.own.six k (by omega)
          obtain ⟨q0, q1, q2, q3, q4, q5⟩ := Ow2.own.six k (by omega)
          obtain ⟨e0, e1, e2, e3, e4, e5⟩ := hPb k (by omega)
          obtain ⟨f0, f1, f2, f3, f4, f5⟩ := hPw k (by omega)
          have rA := (Ob2.data k (by omega)).rd
          have rW := (Ow2.data k (by omega)).rd
          rw [e5] at rA
          rw [f5] at rW
          rw [e0] at p0
          rw [e1] at p1
          rw [e2] at p2
          rw [e3] at p3
          rw [e4] at p4
          rw [f0] at q0
          rw [f1] at q1
          rw [f2] at q2
          rw [f3] at q3
          rw [f4] at q4
          clear e0 e1 e2 e3 e4 e5 f0 f1 f2 f3 f4 f5
          generalize pb[k].a = xa at *
          generalize pb[k].n = na at *
          generalize pb[k].c = ca' at *
          generalize pw[k].a = xw at *
          generalize pw[k].n = nw at *
          generalize pw[k].c = cw' at *
          generalize (L.drop (k * M)).take M = DD at *
          generalize ((ptN k pc : Nat) : Int) = pt at *
          generalize (((ct + k) % 16384 : Nat) : Int) = ctk at *
          have hSA := fun wz ha hb => samePacket_any up false ap pt ctk xa xw na nw ca' cw' DD wz ha hb
          unfold pkV at hSA
          have CK : ∀ wz, wr.grownBy wz none → (wz.cell? ⟨gb, k * 6, none⟩ = some (.bool up) ∧ wz.cell? ⟨gb, k * 6 + 1, none⟩ = some (.bool false) ∧ wz.cell? ⟨gb, k * 6 + 2, none⟩ = some (.int .i64 ap) ∧ wz.cell? ⟨gb, k * 6 + 3, none⟩ = some (.int .i64 pt) ∧ wz.cell? ⟨gb, k * 6 + 4, none⟩ = some (.int .i64 ctk) ∧ wz.cell? ⟨gb, k * 6 + 5, none⟩ = some (.slice xa na ca') ∧ wz.cell? ⟨gw, k * 6, none⟩ = some (.bool up) ∧ wz.cell? ⟨gw, k * 6 + 1, none⟩ = some (.bool false) ∧ wz.cell? ⟨gw, k * 6 + 2, none⟩ = some (.int .i64 ap) ∧ wz.cell? ⟨gw, k * 6 + 3, none⟩ = some (.int .i64 pt) ∧ wz.cell? ⟨gw, k * 6 + 4, none⟩ = some (.int .i64 ctk) ∧ wz.cell? ⟨gw, k * 6 + 5, none⟩ = some (.slice xw nw cw')) := by
            intro wz hz
            have hc : ∀ g j v, g < wr.heap.size → wr.cell? ⟨g, j, none⟩ = some v → wz.cell? ⟨g, j, none⟩ = some v := fun g j v hg hv => by have hb := hz.block g hg (by simp); simp only [World.cell?, hb] at hv ⊢; exact hv
            exact ⟨hc _ _ _ ltx p0, hc _ _ _ ltx p1, hc _ _ _ ltx p2, hc _ _ _ ltx p3, hc _ _ _ ltx p4, hc _ _ _ ltx p5, hc _ _ _ ltw q0, hc _ _ _ ltw q1, hc _ _ _ ltw q2, hc _ _ _ ltw q3, hc _ _ _ ltw q4, hc _ _ _ ltw q5⟩
          have CK0 := CK _ (grown_drew wr none)
          have HCK : Hid (∀ wz, wr.grownBy wz none → _) := CK
          clear CK p0 p1 p2 p3 p4 q0 q1 q2 q3 q4 q5
          go_wp2
          go_region_held3 (fun w' => w'.cell? ⟨gb, k * 6, none⟩ = some (.bool up) ∧ w'.cell? ⟨gb, k * 6 + 1, none⟩ = some (.bool false) ∧ w'.cell? ⟨gb, k * 6 + 2, none⟩ = some (.int .i64 ap) ∧ w'.cell? ⟨gb, k * 6 + 3, none⟩ = some (.int .i64 pt) ∧ w'.cell? ⟨gb, k * 6 + 4, none⟩ = some (.int .i64 ctk) ∧ w'.cell? ⟨gb, k * 6 + 5, none⟩ = some (.slice xa na ca') ∧ w'.cell? ⟨gw, k * 6, none⟩ = some (.bool up) ∧ w'.cell? ⟨gw, k * 6 + 1, none⟩ = some (.bool false) ∧ w'.cell? ⟨gw, k * 6 + 2, none⟩ = some (.int .i64 ap) ∧ w'.cell? ⟨gw, k * 6 + 3, none⟩ = some (.int .i64 pt) ∧ w'.cell? ⟨gw, k * 6 + 4, none⟩ = some (.int .i64 ctk) ∧ w'.cell? ⟨gw, k * 6 + 5, none⟩ = some (.slice xw nw cw')) (first | exact CK0 | exact CK7) (first
            | (go_at_call 10; with_reducible refine (hSA _ (rA.keep (grown_drew wr none)) (rW.keep (grown_drew wr none))).mono ?_; rintro e w7 ⟨rfl, g7⟩; have g07 := grown_trans (grown_drew wr none) g7; have CK7 := HCK.out _ g07))
          go_wp2
          go_roundw
          case rel => exact ⟨k + 1, by omega, by go_num, grown_trans hgq g07⟩
          case measure => simp [intOf]; omega
        · have l1 : ¬ ((k : Int) < (pc : Int)) := by omega
          go_wp2
          go_ret
          exact ⟨rfl, (Below.refl _ _).grown (grown_trans hgr hgq) (Nat.le_refl _) (fun k hk => by cases hk)⟩
theorem pcut_walk (up : Bool) (ap ct : Int) (a : Option Addr) (n c : Nat) (mo : Int) (L : List Nat) (w : World) (hL : Rd w a n c L) (hn : n ≤ 140737488351232) :
    Calls Try.prog 3 #[.bool up, .int .i64 ap, .int .i64 ct, .slice a n c, .int .i64 mo] w fun e w' => e = .returned (.bool true) ∧ Below w.heap.size w w' := by
  by_cases hE : cuE ap ct n mo = 0
  · have h0 := hE
    unfold cuE at h0
    split at h0
    · cases h0
    · split at h0
      · cases h0
      · rename_i h1 h2
        have hp : 0 < n := by omega
        obtain ⟨b, off, rfl, _, _⟩ := hL.at' hp
        obtain ⟨M, rfl⟩ : ∃ M : Nat, mo = (M : Int) := ⟨mo.toNat, by omega⟩
        obtain ⟨ct', rfl⟩ : ∃ c' : Nat, ct = (c' : Int) := ⟨ct.toNat, by omega⟩
        refine pcut_ok up ap ct' b off n c M L w hL (by omega) (by omega) (by omega) (by omega) (by omega) (by omega) ?_
        have hdiv : ((n : Int) + (M : Int) - 1) / (M : Int) = ((pcN n M : Nat) : Int) := by
          unfold pcN
          rw [Int.natCast_ediv]
          congr 1
          omega
        have h3 : ¬ (16384 < ((n : Int) + (M : Int) - 1) / (M : Int)) := fun h => h2 (.inr (.inr (.inr (.inr h))))
        rw [hdiv] at h3
        omega
  · exact pcut_bad up ap ct a n c mo L w hL hn hE
end Go.Proofs.Ytnnohgllnfmoeaa
