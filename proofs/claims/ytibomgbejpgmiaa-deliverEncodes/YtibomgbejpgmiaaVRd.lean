import Derived.Test.YtibomgbejpgmiaaVNb
namespace Go.Proofs.Ytibomgbejpgmiaa
open Go.RowKit
set_option maxRecDepth 100000
set_option linter.unusedVariables false
set_option linter.unusedSimpArgs false

theorem beL4 (x : Nat) : beL 4 x = [beB 4 x 0, beB 4 x 1, beB 4 x 2, beB 4 x 3] := rfl
theorem beL2 (x : Nat) : beL 2 x = [beB 2 x 0, beB 2 x 1] := rfl
theorem beL1 (x : Nat) : beL 1 x = [beB 1 x 0] := rfl
theorem beL_isB (k x : Nat) : IsB (beL k x) := by
  intro y hy
  unfold beL tab at hy
  obtain ⟨i, _, rfl⟩ := List.mem_map.1 hy
  exact beB_lt _ _ _
theorem beB4 (x : Nat) : (x : Int) / 16777216 % 256 = (beB 4 x 0 : Nat) ∧ (x : Int) / 65536 % 256 = (beB 4 x 1 : Nat) ∧ (x : Int) / 256 % 256 = (beB 4 x 2 : Nat) ∧ (x : Int) % 256 = (beB 4 x 3 : Nat) := by
  unfold beB
  simp
/-- bytes in a new block -/
theorem ans_new (w : World) (L : List Nat) (h : IsB L) (hl : L.length ≤ 1000) : Ans (w.alloc (.cells (bys L).toArray 5)) w.heap.size (some ⟨w.heap.size, 0, none⟩) L.length L.length L := by
  refine ⟨⟨by rw [bys_length, Nat.mul_one], .inr ⟨w.heap.size, L.length, (bys L).toArray, rfl, Nat.zero_le _, heap_alloc_new w _, Nat.le_refl _, by unfold maxLen; omega, by simp [bys_length], ?_⟩⟩, h, fun g e => ?_⟩
  · exact List.take_of_length_le (by simp [bys_length])
  · have e : w.heap.size = g := Option.some.inj e
    omega
theorem four_any (x : Nat) (w : World) :
    Calls Try.prog 48 #[.int .i64 (x : Nat)] w fun e w' => e = .returned (.slice (some ⟨w.heap.size, 0, none⟩) 4 4) ∧ Ans w' w.heap.size (some ⟨w.heap.size, 0, none⟩) 4 4 (beL 4 x) ∧ w.grownBy w' none := by
  obtain ⟨h0, h1, h2, h3⟩ := beB4 x
  have hA := ans_new w (beL 4 x) (beL_isB 4 x) (by rw [beL_len]; decide)
  rw [beL_len] at hA
  have hg := World.grownBy_alloc w (.cells (bys (beL 4 x)).toArray 5) none
  rw [beL4] at hA hg ⊢
  have e : (bys [beB 4 x 0, beB 4 x 1, beB 4 x 2, beB 4 x 3]).toArray = #[.int .u8 (beB 4 x 0 : Nat), .int .u8 (beB 4 x 1 : Nat), .int .u8 (beB 4 x 2 : Nat), .int .u8 (beB 4 x 3 : Nat)] := rfl
  rw [e] at hA hg
  generalize beB 4 x 0 = y0 at *
  generalize beB 4 x 1 = y1 at *
  generalize beB 4 x 2 = y2 at *
  generalize beB 4 x 3 = y3 at *
  go_enter Try.func48, Try.ntmps48
  go_wp2
  go_ret
  exact ⟨rfl, hA, hg⟩

theorem beB2 (x : Nat) (h : x ≤ 65535) : (x : Int) / 256 = (beB 2 x 0 : Nat) ∧ (x : Int) % 256 = (beB 2 x 1 : Nat) ∧ beB 2 x 0 < 256 := by
  unfold beB
  simp
  omega
theorem ans_lo {w : World} {lo : Nat} {a : Option Addr} {n cap : Nat} {L : List Nat} {g : Nat} (h : Ans w lo a n cap L) (hg : g < lo) : some g ≠ (Value.slice a n cap).ownBlock := by
  rcases h.cases with ⟨rfl, _, _⟩ | ⟨g', rfl, hg', _⟩
  · intro e; cases e
  · intro e
    have e : g = g' := Option.some.inj e
    omega
theorem ne_up {g k n c : Nat} (h : g < k) : some g ≠ (Value.slice (some ⟨k, 0, none⟩) n c).ownBlock := fun e => by
  have e : g = k := Option.some.inj e
  omega
set_option maxHeartbeats 16000000 in
theorem rbytes_4 (id : Nat) (nm : ByteArray) (si su at' : Nat) (a : Option Addr) (n cap : Nat) (q : Option Addr) (m cq : Nat) (o co : Nat) (D : List Nat) (F : Nat → Int × Int) (w : World) (hD : Rd w a n cap D) (hG : RdG w q m cq F) (hm : ntB ((4 : Nat) : Int) id nm.size si su at' n m o co (alG F 65536 m) = true)
    (MAY : ∀ wz, w.grownBy wz none → Calls Try.prog 47 #[.agg (ntA ((4 : Nat) : Int) id nm si su at' (.slice a n cap) (.slice q m cq) o co)] wz fun e w' => e = .returned (.bool true) ∧ wz.grownBy w' none) :
    Calls Try.prog 12 #[.agg (ntA ((4 : Nat) : Int) id nm si su at' (.slice a n cap) (.slice q m cq) o co)] w fun e w' => ∃ a' l' c', e = .returned (.tuple #[.slice a' l' c', .int .i64 0]) ∧ Ans w' w.heap.size a' l' c' (ntL 4 id nm si su at' D F m o co) ∧ w.grownBy w' none := by
  have hp : id ≤ 65535 ∧ nm.size ≤ 32 ∧ n ≤ 1024 ∧ m ≤ 20 ∧ si ≤ 65536 ∧ su ≤ 4294967295 ∧ at' ≤ 65536 ∧ o ≤ 5 ∧ co ≤ 9 := by
    unfold ntB ptB brB at hm
    simp only [Bool.and_eq_true, decide_eq_true_eq] at hm
    obtain ⟨⟨h1, h2⟩, h3⟩ := hm
    have h1 := kwB_ok h1
    omega
  obtain ⟨p1, p2, p3, p4, p5, p6, p7, p8, p9⟩ := hp
  obtain ⟨q0, q1, q2⟩ := beB2 id p1
  have hA0 := fun wz => ans_new wz (beL 1 4 ++ beL 2 id) (isB_append (beL_isB _ _) (beL_isB _ _)) (by simp [beL_len])
  have HL : Hid (beL 1 4 ++ beL 2 id = [4, beB 2 id 0, beB 2 id 1]) := rfl
  simp only [HL.out, List.length_cons, List.length_nil, Nat.reduceAdd] at hA0
  have hA1 : ∀ wz : World, Ans (wz.alloc (.cells #[.int .u8 4, .int .u8 (beB 2 id 0 : Nat), .int .u8 (beB 2 id 1 : Nat)] 5)) wz.heap.size (some ⟨wz.heap.size, 0, none⟩) 3 3 [4, beB 2 id 0, beB 2 id 1] := hA0
  clear hA0
  generalize beB 2 id 0 = y0 at *
  generalize beB 2 id 1 = y1 at *
  have bx := BxS.new w 27 #[.int .i64 4, .int .i64 id, .string nm, .int .i64 si, .int .i64 su, .int .i64 at', .slice a n cap, .slice q m cq, .int .i64 o, .int .i64 co]
  have g0 := World.grownBy_alloc w (.cells #[.int .i64 4, .int .i64 id, .string nm, .int .i64 si, .int .i64 su, .int .i64 at', .slice a n cap, .slice q m cq, .int .i64 o, .int .i64 co] 27) none
  unfold ntA at MAY ⊢
  generalize hw0 : w.alloc (.cells #[.int .i64 4, .int .i64 id, .string nm, .int .i64 si, .int .i64 su, .int .i64 at', .slice a n cap, .slice q m cq, .int .i64 o, .int .i64 co] 27) = w0 at bx g0
  obtain ⟨d0, d1, d2, d3, d4, d5, d6, d7, d8, d9⟩ := bx.cell10
  go_enter Try.func12, Try.ntmps12
  go_wp2_with (first
    | (go_at_call 47; refine (MAY _ g0).mono ?_; rintro e w1 ⟨rfl, g1⟩; clear d0 d1 d2 d3 d4 d5 d6 d7 d8 d9; have gB := World.grownBy_alloc w1 (.cells #[.int .u8 4, .int .u8 (y0 : Nat), .int .u8 (y1 : Nat)] 5) none; have bx1 := bx.keep g1 (by simp); obtain ⟨d0, d1, d2, d3, d4, d5, d6, d7, d8, d9⟩ := bx1.cell10; obtain ⟨z0, z1, z2, z3, z4, z5, z6, z7, z8, z9⟩ := (bx1.keep gB (by simp)).cell10))
  have A1 := hA1 w1
  have gV := grown_trans (grown_trans g0 g1) gB
  have bV := bx1.keep gB (by simp)
  have hz1 : w.heap.size < w1.heap.size := bx1.lt
  have hs1 : w1.heap.size ≤ (w1.alloc (.cells #[.int .u8 4, .int .u8 (y0 : Nat), .int .u8 (y1 : Nat)] 5)).heap.size := by simp
  clear d0 d1 d2 d3 d4 d5 d6 d7 d8 d9 hA1 gB bx bx1 MAY
  generalize hv1 : w1.alloc (.cells #[.int .u8 4, .int .u8 (y0 : Nat), .int .u8 (y1 : Nat)] 5) = v1 at *
  clear hv1 hw0
  have t3 : True := trivial
  have hal : alG F 65536 m = true := by
    unfold ntB ptB at hm
    simp only [Bool.and_eq_true, decide_eq_true_eq] at hm
    cases h : alG F 65536 m with
    | true => rfl
    | false => rw [h] at hm; simp at hm
  have HG := fun k (hk : k < m) => gpB_ok (alG_ok F 65536 m hal k hk)
  clear z0 z1 z2 z3 z4 z5 z6 z7 z8 z9 t3 hal hm q0 q1
  go_loopw [4, 5] (fun l i wr => ∃ (k : Nat) (ak : Option Addr) (ck : Nat), k ≤ m ∧ i = .int .i64 k ∧ l = .slice ak (3 + 8 * k) ck ∧ Ans wr w1.heap.size ak (3 + 8 * k) ck ([4, y0, y1] ++ gpL F k) ∧ w.grownBy wr none ∧ w1.heap.size ≤ wr.heap.size ∧ BxS wr w.heap.size 27 #[.int .i64 4, .int .i64 id, .string nm, .int .i64 si, .int .i64 su, .int .i64 at', .slice a n cap, .slice q m cq, .int .i64 o, .int .i64 co]) (fun _ i _ => m - (intOf i).toNat)
  case atStart => exact ⟨0, _, 3, by omega, rfl, rfl, by simpa [gpL] using A1, gV, hs1, bV⟩
  case round =>
    obtain ⟨k, ak, ck, hk, rfl, rfl, Ak, gW, hlk, bW⟩ := hrel
    obtain ⟨d0, d1, d2, d3, d4, d5, d6, d7, d8, d9⟩ := bW.cell10
    by_cases hlt : k < m
    · have hki : (k : Int) < (m : Int) := by omega
      obtain ⟨b1, o1, rfl, hbw0, cc⟩ := hG.at' (by omega)
      have hb1 : b1 < wr.heap.size := Nat.lt_of_lt_of_le hbw0 gW.size
      have hbw : b1 < w1.heap.size := Nat.lt_trans hbw0 hz1
      obtain ⟨y1', y2'⟩ := cc k hlt
      have y1' := (World.cell?_of_block (gW.block b1 hbw0 (by simp))).trans y1'
      have y2' := (World.cell?_of_block (gW.block b1 hbw0 (by simp))).trans y2'
      obtain ⟨X, Y, hX, hY, hXl, hYl⟩ := HG k hlt
      have HS : Hid (gpL F (k + 1) = gpL F k ++ (beL 4 X ++ beL 4 Y)) := by
        show gpL F k ++ (beL 4 (F k).1.toNat ++ beL 4 (F k).2.toNat) = _
        rw [hX, hY]; rfl
      rw [hX] at y1'
      rw [hY] at y2'
      have hk0 : (0 : Int) ≤ (k : Int) := by omega
      clear cc HG hX hY
      have t3 : True := trivial
      go_wp2_with fail
      go_region_held3 (fun w' => w'.cell? ⟨w.heap.size, 7, none⟩ = some (.slice (some ⟨b1, o1, none⟩) m cq) ∧ w'.cell? ⟨b1, o1 + k * 2, none⟩ = some (.int .i64 (X : Int)) ∧ w'.cell? ⟨b1, o1 + k * 2 + 1, none⟩ = some (.int .i64 (Y : Int))) (first | exact ⟨z7, l1, l2⟩ | exact ⟨v7, r1, r2⟩ | exact ⟨u7, n1, n2⟩ | exact ⟨x7, m1, m2⟩ | go_keep) (first
        | (go_simp; go_at_call 48; have _t := t3; clear t3; refine (four_any X wr.drew).mono ?_; rintro e w3 ⟨rfl, A3, g3⟩; have k3 : wr.grownBy w3 none := grown_trans (grown_drew wr none) g3; have b3 := bW.keep k3 (by simp); obtain ⟨x0, x1, x2, x3, x4, x5, x6, x7, x8, x9⟩ := b3.cell10; have m1 := (World.cell?_of_block (k3.block b1 hb1 (by simp))).trans y1'; have m2 := (World.cell?_of_block (k3.block b1 hb1 (by simp))).trans y2'; have hb3 := Nat.lt_of_lt_of_le hb1 k3.size; have t4 : True := trivial)
        | (have _t := t4; clear t4; refine step_joinP rfl (.tmp 62) (.tmp 69) rfl ak (3 + 8 * k) ck w1.heap.size _ rfl (Ak.keep k3) (Nat.le_trans hlk k3.size) ⟨wr.heap.size, 0, none⟩ 4 4 _ rfl A3.rd (by decide) (by omega) ?_; intro a4 c4 w4 A4 g4; have hl4 := Nat.le_trans (Nat.le_trans hlk k3.size) g4.size; have b4 := b3.keep g4 (ans_lo Ak hz1); obtain ⟨u0, u1, u2, u3, u4, u5, u6, u7, u8, u9⟩ := b4.cell10; have n1 := (World.cell?_of_block (g4.block b1 hb3 (ans_lo Ak hbw))).trans m1; have n2 := (World.cell?_of_block (g4.block b1 hb3 (ans_lo Ak hbw))).trans m2; have t5 : True := trivial)
        | (go_simp; go_at_call 48; have _t := t5; clear t5; refine (four_any Y w4).mono ?_; rintro e w5 ⟨rfl, A5, g5⟩; have hb4 := Nat.lt_of_lt_of_le hb3 g4.size; have b5 := b4.keep g5 (by simp); obtain ⟨v0, v1_, v2, v3, v4, v5, v6, v7, v8, v9⟩ := b5.cell10; have r1 := (World.cell?_of_block (g5.block b1 hb4 (by simp))).trans n1; have r2 := (World.cell?_of_block (g5.block b1 hb4 (by simp))).trans n2; have hb5 := Nat.lt_of_lt_of_le hb4 g5.size; have t6 : True := trivial)
        | (have _t := t6; clear t6; refine step_joinP rfl (.tmp 70) (.tmp 77) rfl a4 (3 + 8 * k + 4) c4 w1.heap.size _ rfl (A4.keep g5) (Nat.le_trans hl4 g5.size) ⟨w4.heap.size, 0, none⟩ 4 4 _ rfl A5.rd (by decide) (by omega) ?_; intro a6 c6 w6 A6 g6; have b6 := b5.keep g6 (ans_lo A4 hz1); obtain ⟨z0, z1, z2, z3, z4, z5, z6, z7, z8, z9⟩ := b6.cell10; have l1 := (World.cell?_of_block (g6.block b1 hb5 (ans_lo A4 hbw))).trans r1; have l2 := (World.cell?_of_block (g6.block b1 hb5 (ans_lo A4 hbw))).trans r2))
      all_goals (try go_simp)
      all_goals go_wp2
      all_goals
        have G4 : w.grownBy w4 none := grown_far (grown_trans gW k3) g4 (fun y hy => by have := Ak.new y hy; omega)
        have G6 : w.grownBy w6 none := grown_far (grown_trans G4 g5) g6 (fun y hy => by have := A4.new y hy; omega)
        have A7 : Ans w6 w1.heap.size a6 (3 + 8 * (k + 1)) c6 ([4, y0, y1] ++ gpL F (k + 1)) := by
          show Ans w6 w1.heap.size a6 (3 + 8 * k + 4 + 4) c6 _
          rw [HS.out]
          simpa using A6
        go_roundw
        case rel => first
          | exact ⟨k + 1, a6, c6, by omega, by go_num, rfl, A7, G6, Nat.le_trans (Nat.le_trans hl4 g5.size) g6.size, b6⟩
          | (repeat apply Exists.intro
             refine ⟨?_, rfl⟩
             exact ⟨k + 1, a6, c6, by omega, by go_num, rfl, A7, G6, Nat.le_trans (Nat.le_trans hl4 g5.size) g6.size, b6⟩)
        case measure => simp [intOf]; omega
    · obtain rfl : k = m := by omega
      go_wp2
      go_ret2
      refine ⟨ak, _, ck, rfl, (Ak.lower (Nat.le_of_lt hz1)).as ?_, gW⟩
      unfold ntL ntT
      rw [HL.out]
      simp
end Go.Proofs.Ytibomgbejpgmiaa
