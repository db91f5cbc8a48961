import Derived.Test.YtnimehkfnpepfaaWh12
import Derived.Test.YtnimehkfnpepfaaWh18
namespace Go.Proofs.Ytnimehkfnpepfaa
open Go.RowKit
set_option maxRecDepth 100000
set_option linter.unusedVariables false
set_option linter.unusedSimpArgs false

section
def agP (n : Nat) (G : List (Int × Int)) (p : Int × Int) : List (Int × Int) := if G.length < 1000 ∧ ((p.1 = 0 ∧ p.2 = 0) ∨ p.1 < (if p.2 ≤ (n : Int) then p.2 else (n : Int))) then G ++ [(p.1, if p.2 ≤ (n : Int) then p.2 else (n : Int))] else G
theorem agP_in {n : Nat} {G : List (Int × Int)} {x y y2 : Int} (hl : G.length < 1000) (hy : y2 = if y ≤ (n : Int) then y else (n : Int)) (h : (x = 0 ∧ y = 0) ∨ x < y2) : agP n G (x, y) = G ++ [(x, y2)] := by
  subst hy
  exact if_pos ⟨hl, h⟩
theorem agP_no1 {n : Nat} {G : List (Int × Int)} {p : Int × Int} (hl : ¬ G.length < 1000) : agP n G p = G := if_neg (fun h => hl h.1)
theorem agP_no2 {n : Nat} {G : List (Int × Int)} {x y y2 : Int} (hy : y2 = if y ≤ (n : Int) then y else (n : Int)) (h1 : ¬ (x = 0 ∧ y = 0)) (h2 : ¬ x < y2) : agP n G (x, y) = G := by
  subst hy
  exact if_neg (fun h => by rcases h.2 with h3 | h3; exact h1 h3; exact h2 h3)
/-- what has to go once more, with what gaps tell -/
def agN (n : Nat) (G : List (Int × Int)) (F : Nat → Int × Int) : Nat → List (Int × Int)
  | 0 => G
  | j + 1 => agP n (agN n G F j) (F j)

theorem GW.keepN {wB w w' : World} {gw : Nat} {id : Int} {nm : ByteArray} {mo bu st : Int} {fi : Bool} {at' ti pa tr li : Int} {a : Option Addr} {n c : Nat} {L : List Nat} {q : Option Addr} {m d : Nat} {G : List (Int × Int)} {na : Option Addr} {nn nc : Nat} {xs : List Nx} (h : GW wB w gw id nm mo bu st fi at' ti pa tr li a n c L q m d G na nn nc xs) (u : w.grownBy w' none) : GW wB w' gw id nm mo bu st fi at' ti pa tr li a n c L q m d G na nn nc xs :=
  ⟨h.bx.keep u (by simp), h.A.keep u, h.O.keep u, h.N.keep u, h.gl, h.sA, h.sO, grown_trans h.g u⟩
set_option maxHeartbeats 64000000 in
/-- what gaps ask for -/
theorem giveAgain_any (wB w : World) (gw : Nat) (id : Int) (nm : ByteArray) (mo bu st : Int) (fi : Bool) (at' ti pa tr li : Int) (a : Option Addr) (n c : Nat) (L : List Nat) (q : Option Addr) (m d : Nat) (G : List (Int × Int)) (na : Option Addr) (nn nc : Nat) (xs : List Nx) (h : GW wB w gw id nm mo bu st fi at' ti pa tr li a n c L q m d G na nn nc xs) (hm : m ≤ 1000) (ga : Option Addr) (gm gd : Nat) (F : Nat → Int × Int) (hF : RdG wB ga gm gd F) :
    Calls Try.prog 99 #[.pointer (some ⟨gw, 0, none⟩), .slice ga gm gd] w fun e w' => e = .returned (.tuple #[]) ∧ ∃ q' m' d', GW wB w' gw id nm mo bu st fi at' ti pa tr li a n c L q' m' d' (agN n G F gm) na nn nc xs ∧ KpT w w' := by
  have hmx := hF.max
  have hle := hF.le
  unfold maxLen at hmx
  have i2 := Try.info_sp
  have u2 := Try.underlying82
  go_enter Try.func99, Try.ntmps99
  go_wp2
  go_loopw [9] (fun iv wr => ∃ (j : Nat) (q1 : Option Addr) (m1 d1 : Nat) (G1 : List (Int × Int)), j ≤ gm ∧ iv = .int .i64 j ∧ GW wB wr gw id nm mo bu st fi at' ti pa tr li a n c L q1 m1 d1 G1 na nn nc xs ∧ m1 ≤ 1000 ∧ Hid (G1 = agN n G F j) ∧ KpT w wr) (fun iv _ => gm - (intOf iv).toNat)
  case atStart => exact ⟨0, q, m, d, G, Nat.zero_le _, rfl, h, hm, rfl, fun g cs hb => hb⟩
  case round =>
    obtain ⟨j, q1, m1, d1, G1, hj, rfl, h1, hm1, HG, KP⟩ := hrel
    by_cases hlt : j < gm
    · have lj : (j : Int) < (gm : Int) := by omega
      obtain ⟨b, off, rfl, hb, hc⟩ := (hF.keep h1.g).at' (by omega)
      obtain ⟨p0, p1⟩ := hc j hlt
      have HS : Hid (agN n G F (j + 1) = agP n (agN n G F j) (F j)) := rfl
      obtain ⟨x, y, hxy9⟩ : ∃ x y, F j = (x, y) := ⟨_, _, rfl⟩
      rw [hxy9] at p0 p1 HS
      clear hc hxy9
      have HG' : Hid (agN n G F j = G1) := by show _ = _; exact HG.out.symm
      clear HG
      have HG := HG'
      refine wp_seq_k fun K1 hK1 => ?_
      have HK1 : Hid _ := hK1
      clear hK1
      go_wp2
      refine HK1.out _ _ ?_
      clear HK1
      refine wp_seq_k fun K2 hK2 => ?_
      have HK2 : Hid _ := hK2
      clear hK2
      go_wp2
      refine HK2.out _ _ ?_
      clear HK2
      refine wp_seq_k fun K3 hK3 => ?_
      have HK3 : Hid _ := hK3
      clear hK3
      refine wp_block ?_
      refine wp_seq_k fun K4 hK4 => ?_
      have HK4 : Hid _ := hK4
      clear hK4
      have bn0 := BxS.new wr 82 #[.int .i64 0, .int .i64 0]
      have gn0 := World.grownBy_alloc wr (.cells #[.int .i64 0, .int .i64 0] 82) none
      generalize hw1 : wr.alloc (.cells #[.int .i64 0, .int .i64 0] 82) = w1 at bn0 gn0
      have s0 : True := trivial
      go_wp2_with (have _t := s0; clear s0; refine wpList_stX _ rfl _ (.tmp 5) (.tmp 12) rfl wr.heap.size _ _ rfl rfl bn0 i2 rfl (by simp [Value.oneCell']) ?_; intro w2 b52 u2')
      have hG2 : wr.grownBy w2 none := grown_far gn0 u2' (fun z e => by have e := Option.some.inj e; omega)
      have h2 := h1.keepN hG2
      obtain ⟨g5, hg5⟩ : ∃ g5, wr.heap.size = g5 := ⟨_, rfl⟩
      rw [hg5] at b52 ⊢
      clear hg5 u2' bn0 gn0 hw1 p0 p1
      refine HK4.out _ _ ?_
      clear HK4
      refine wp_seq_k fun K5 hK5 => ?_
      have HK5 : Hid _ := hK5
      clear hK5
      by_cases hyn : y ≤ (n : Int)
      · have hyn' : ¬ (n : Int) < y := by omega
        have HY : Hid (y = if y ≤ (n : Int) then y else (n : Int)) := by show _ = _; rw [if_pos hyn]
        have Gd := grown_drew w2 none
        have SS : BxS w2.drew g5 82 #[.int .i64 x, .int .i64 y] ∧ BxS w2.drew gw 100 #[.int .i64 id, .string nm, .slice a n c, .int .i64 mo, .int .i64 bu, .int .i64 st, .bool fi, .int .i64 at', .slice q1 m1 d1, .int .i64 ti, .int .i64 pa, .int .i64 tr, .int .i64 li, .slice na nn nc] := ⟨b52.keep Gd (by simp), h2.bx.keep Gd (by simp)⟩
        refine wp_regionL (fun wz => BxS wz g5 82 #[.int .i64 x, .int .i64 y] ∧ BxS wz gw 100 #[.int .i64 id, .string nm, .slice a n c, .int .i64 mo, .int .i64 bu, .int .i64 st, .bool fi, .int .i64 at', .slice q1 m1 d1, .int .i64 ti, .int .i64 pa, .int .i64 tr, .int .i64 li, .slice na nn nc]) [13] #[false, false, false, false, false, false, false, false, false, false, false, false, false, false] rfl (by kernel_rfl) ?_
        refine wpAnyZ_take [13] 0 (.pointer (some ⟨g5, 0, none⟩)) rfl (by kernel_rfl) (fun _ _ _ h => h) SS rfl (by intro wz hz; go_simp) ?_
        try simp only [zc1, zc2, zc3, Act.put, zc4, zc5, zc6]
        refine wpAnyZ_take [13] 1 (.int .i64 x) rfl (by kernel_rfl) (fun _ _ _ h => h) SS rfl (by rintro wz ⟨hz, hz2⟩; obtain ⟨z0, z1⟩ := hz.cell2; go_simp) ?_
        try simp only [zc1, zc2, zc3, Act.put, zc4, zc5, zc6]
        refine wpAnyZ_take [13] 2 (.pointer (some ⟨g5, 1, none⟩)) rfl (by kernel_rfl) (fun _ _ _ h => h) SS rfl (by intro wz hz; go_simp) ?_
        try simp only [zc1, zc2, zc3, Act.put, zc4, zc5, zc6]
        refine wpAnyZ_take [13] 3 (.int .i64 y) rfl (by kernel_rfl) (fun _ _ _ h => h) SS rfl (by rintro wz ⟨hz, hz2⟩; obtain ⟨z0, z1⟩ := hz.cell2; go_simp) ?_
        try simp only [zc1, zc2, zc3, Act.put, zc4, zc5, zc6]
        refine wpAnyZ_take [13] 4 (.pointer (some ⟨gw, 0, none⟩)) rfl (by kernel_rfl) (fun _ _ _ h => h) SS rfl (by intro wz hz; go_simp) ?_
        try simp only [zc1, zc2, zc3, Act.put, zc4, zc5, zc6]
        refine wpAnyZ_take [13] 5 (.pointer (some ⟨gw, 0, none⟩)) rfl (by kernel_rfl) (fun _ _ _ h => h) SS rfl (by intro wz hz; go_simp) ?_
        try simp only [zc1, zc2, zc3, Act.put, zc4, zc5, zc6]
        refine wpAnyZ_take [13] 6 (.pointer (some ⟨gw, 0, none⟩)) rfl (by kernel_rfl) (fun _ _ _ h => h) SS rfl (by intro wz hz; go_simp) ?_
        try simp only [zc1, zc2, zc3, Act.put, zc4, zc5, zc6]
        refine wpAnyZ_take [13] 7 (.pointer (some ⟨gw, 2, none⟩)) rfl (by kernel_rfl) (fun _ _ _ h => h) SS rfl (by intro wz hz; go_simp) ?_
        try simp only [zc1, zc2, zc3, Act.put, zc4, zc5, zc6]
        refine wpAnyZ_take [13] 8 (.slice a n c) rfl (by kernel_rfl) (fun _ _ _ h => h) SS rfl (by rintro wz ⟨hz, hz2⟩; have z : wz.cell? ⟨gw, 2, none⟩ = some (.slice a n c) := hz2.cell 2 (by show 2 < 14; decide); go_simp) ?_
        try simp only [zc1, zc2, zc3, Act.put, zc4, zc5, zc6]
        refine wpAnyZ_take [13] 9 (.int .i64 (n : Int)) rfl (by kernel_rfl) (fun _ _ _ h => h) SS rfl (by intro wz hz; go_simp) ?_
        try simp only [zc1, zc2, zc3, Act.put, zc4, zc5, zc6]
        refine wpAnyZ_take [13] 10 (.int .i64 y) rfl (by kernel_rfl) (fun _ _ _ h => h) SS rfl (by intro wz hz; go_simp) ?_
        try simp only [zc1, zc2, zc3, Act.put, zc4, zc5, zc6]
        refine wpAnyZ_take [13] 11 (.agg #[.int .i64 x, .int .i64 y]) rfl (by kernel_rfl) (fun _ _ _ h => h) SS rfl (by intro wz hz; go_simp) ?_
        try simp only [zc1, zc2, zc3, Act.put, zc4, zc5, zc6]
        generalize w2.drew = w3 at *
        have bn := BxS.new w3 82 #[.int .i64 0, .int .i64 0]
        have gn := World.grownBy_alloc w3 (.cells #[.int .i64 0, .int .i64 0] 82) none
        refine wpAnyZ_oneB 12 rfl (by kernel_rfl) (fun KK hKK => ?_)
        go_simp
        refine hKK _ _ (fun _ => ⟨SS.1.keep gn (by simp), SS.2.keep gn (by simp)⟩) ?_
        try simp only [zc1, zc2, zc3, Act.put, zc4, zc5, zc6]
        have G4 := grown_trans Gd gn
        have z3 := Gd.size
        generalize w3.alloc (.cells #[.int .i64 0, .int .i64 0] 82) = w4 at *
        refine wpAnyZ_oneB 13 rfl (by kernel_rfl) (fun KK hKK => ?_)
        refine step_stX _ rfl _ _ _ rfl w3.heap.size _ _ rfl rfl bn i2 rfl (by simp [Value.oneCell']) ?_
        intro w5 b65 u5
        refine hKK _ _ (fun h => absurd (by decide) h) ?_
        try simp only [zc1, zc2, zc3, Act.put, zc4, zc5, zc6]
        refine wpAnyZ_doneB (by kernel_rfl) ?_ _
        have l5 := SS.1.lt
        have hG5 : w2.grownBy w5 none := grown_far G4 u5 (fun z e => by have e := Option.some.inj e; omega)
        have h5 := h2.keepN hG5
        have KP5 := (KP.trans (KpT.none hG2)).trans (KpT.none hG5)
        have b55 := b52.keep hG5 (by simp)
        have hB2 := h2.g.size
        obtain ⟨g6, hg6⟩ : ∃ g6, w3.heap.size = g6 := ⟨_, rfl⟩
        have hl6 : w2.heap.size ≤ g6 := by omega
        rw [hg6] at b65 ⊢
        clear hg6 u5 bn gn SS G4 Gd z3 l5
        obtain ⟨z0, z1⟩ := b55.cell2
        obtain ⟨y0, y1⟩ := b65.cell2
        have x8 : w5.cell? ⟨gw, 8, none⟩ = some (.slice q1 m1 d1) := h5.bx.cell 8 (by show 8 < 14; decide)
        have hq6 : (Value.slice q1 m1 d1).ownBlock ≠ some g6 := fun e => by have := h2.O.lt e; omega
        refine HK5.out _ _ ?_
        clear HK5
        have hl1 : G1.length = m1 := h5.O.len
        have HL1 : Hid _ := hl1
        clear hl1
        by_cases hm1 : m1 < 1000
        · have hmi : (m1 : Int) < 1000 := by omega
          by_cases hzz : x = 0 ∧ y = 0
          · obtain ⟨hx0, hy0⟩ := hzz
            subst hx0 hy0
            have ha : ∀ wz, (Op.equalIn 10000 82 (.agg #[.int .i64 0, .int .i64 0]) (.agg #[.int .i64 0, .int .i64 0])).run Try.prog wz = .ok true wz := fun wz => arr2_i64 0 0 0 0 wz
            refine wp_seq_k fun K6 hK6 => ?_
            have HK6 : Hid _ := hK6
            clear hK6
            go_wp2
            refine HK6.out _ _ ?_
            clear HK6
            refine wp_cond_true rfl ?_
            refine ga_t5 _ wB w5 gw id nm mo bu st fi at' ti pa tr li a n c L q1 m1 d1 G1 na nn nc xs h5 g6 0 0 b65 (by omega) (by omega) hq6 (fun c a a' wz e h => by cases a; cases a'; cases e; exact h) ?_
            intros
            rename_i w7 q7 d7 h7 k7
            simp only [Exit.inBlock, Exit.then]
            refine HK3.out _ _ ?_
            clear HK3
            go_wp2
            go_roundw
            case rel => exact ⟨j + 1, _, (m1 + 1), _, _, by omega, by go_num, h7, by omega, by show _ = _; rw [HS.out, HG.out, agP_in (by have := HL1.out; omega) HY.out (.inl ⟨rfl, rfl⟩)], KP5.trans k7⟩
            case measure => simp [intOf] <;> omega
          · have ha := fun wz => arr2_i64 x y 0 0 wz
            have hzb : (x == 0 && y == 0) = false := by
              by_cases e1 : x = 0
              · by_cases e2 : y = 0
                · exact absurd ⟨e1, e2⟩ hzz
                · simp [e2]
              · simp [e1]
            rw [hzb] at ha
            have HZZ : Hid _ := hzz
            clear hzz hzb
            by_cases hxy : x < y
            · have HXY : Hid _ := hxy
              refine wp_seq_k fun K6 hK6 => ?_
              have HK6 : Hid _ := hK6
              clear hK6
              go_wp2
              refine HK6.out _ _ ?_
              clear HK6
              refine wp_cond_true rfl ?_
              refine ga_t5 _ wB w5 gw id nm mo bu st fi at' ti pa tr li a n c L q1 m1 d1 G1 na nn nc xs h5 g6 x y b65 (by omega) (by omega) hq6 (fun c a a' wz e h => by cases a; cases a'; cases e; exact h) ?_
              intros
              rename_i w7 q7 d7 h7 k7
              simp only [Exit.inBlock, Exit.then]
              refine HK3.out _ _ ?_
              clear HK3
              go_wp2
              go_roundw
              case rel => exact ⟨j + 1, _, (m1 + 1), _, _, by omega, by go_num, h7, by omega, by show _ = _; rw [HS.out, HG.out, agP_in (by have := HL1.out; omega) HY.out (.inr HXY.out)], KP5.trans k7⟩
              case measure => simp [intOf] <;> omega
            · have HXY : Hid _ := hxy
              refine wp_seq_k fun K6 hK6 => ?_
              have HK6 : Hid _ := hK6
              clear hK6
              go_wp2
              refine HK6.out _ _ ?_
              clear HK6
              refine wp_cond_false rfl ?_
              refine wp_skip ?_
              simp only [Exit.inBlock, Exit.then]
              refine HK3.out _ _ ?_
              clear HK3
              go_wp2
              go_roundw
              case rel => exact ⟨j + 1, _, m1, _, _, by omega, by go_num, h5, by omega, by show _ = _; rw [HS.out, HG.out, agP_no2 HY.out HZZ.out HXY.out], KP5⟩
              case measure => simp [intOf] <;> omega
        · have hmi : ¬ (m1 : Int) < 1000 := by omega
          refine wp_seq_k fun K6 hK6 => ?_
          have HK6 : Hid _ := hK6
          clear hK6
          go_wp2
          refine HK6.out _ _ ?_
          clear HK6
          refine wp_cond_false rfl ?_
          refine wp_skip ?_
          simp only [Exit.inBlock, Exit.then]
          refine HK3.out _ _ ?_
          clear HK3
          go_wp2
          go_roundw
          case rel => exact ⟨j + 1, _, m1, _, _, by omega, by go_num, h5, by omega, by show _ = _; rw [HS.out, HG.out, agP_no1 (by have := HL1.out; omega)], KP5⟩
          case measure => simp [intOf] <;> omega
      · have hyn' : (n : Int) < y := by omega
        have HY : Hid ((n : Int) = if y ≤ (n : Int) then y else (n : Int)) := by show _ = _; rw [if_neg hyn]
        have Gd := grown_drew w2 none
        have SS : BxS w2.drew g5 82 #[.int .i64 x, .int .i64 y] ∧ BxS w2.drew gw 100 #[.int .i64 id, .string nm, .slice a n c, .int .i64 mo, .int .i64 bu, .int .i64 st, .bool fi, .int .i64 at', .slice q1 m1 d1, .int .i64 ti, .int .i64 pa, .int .i64 tr, .int .i64 li, .slice na nn nc] := ⟨b52.keep Gd (by simp), h2.bx.keep Gd (by simp)⟩
        refine wp_regionL (fun wz => BxS wz g5 82 #[.int .i64 x, .int .i64 y] ∧ BxS wz gw 100 #[.int .i64 id, .string nm, .slice a n c, .int .i64 mo, .int .i64 bu, .int .i64 st, .bool fi, .int .i64 at', .slice q1 m1 d1, .int .i64 ti, .int .i64 pa, .int .i64 tr, .int .i64 li, .slice na nn nc]) [13] #[false, false, false, false, false, false, false, false, false, false, false, false, false, false] rfl (by kernel_rfl) ?_
        refine wpAnyZ_take [13] 0 (.pointer (some ⟨g5, 0, none⟩)) rfl (by kernel_rfl) (fun _ _ _ h => h) SS rfl (by intro wz hz; go_simp) ?_
        try simp only [zc1, zc2, zc3, Act.put, zc4, zc5, zc6]
        refine wpAnyZ_take [13] 1 (.int .i64 x) rfl (by kernel_rfl) (fun _ _ _ h => h) SS rfl (by rintro wz ⟨hz, hz2⟩; obtain ⟨z0, z1⟩ := hz.cell2; go_simp) ?_
        try simp only [zc1, zc2, zc3, Act.put, zc4, zc5, zc6]
        refine wpAnyZ_take [13] 2 (.pointer (some ⟨g5, 1, none⟩)) rfl (by kernel_rfl) (fun _ _ _ h => h) SS rfl (by intro wz hz; go_simp) ?_
        try simp only [zc1, zc2, zc3, Act.put, zc4, zc5, zc6]
        refine wpAnyZ_take [13] 3 (.int .i64 y) rfl (by kernel_rfl) (fun _ _ _ h => h) SS rfl (by rintro wz ⟨hz, hz2⟩; obtain ⟨z0, z1⟩ := hz.cell2; go_simp) ?_
        try simp only [zc1, zc2, zc3, Act.put, zc4, zc5, zc6]
        refine wpAnyZ_take [13] 4 (.pointer (some ⟨gw, 0, none⟩)) rfl (by kernel_rfl) (fun _ _ _ h => h) SS rfl (by intro wz hz; go_simp) ?_
        try simp only [zc1, zc2, zc3, Act.put, zc4, zc5, zc6]
        refine wpAnyZ_take [13] 5 (.pointer (some ⟨gw, 0, none⟩)) rfl (by kernel_rfl) (fun _ _ _ h => h) SS rfl (by intro wz hz; go_simp) ?_
        try simp only [zc1, zc2, zc3, Act.put, zc4, zc5, zc6]
        refine wpAnyZ_take [13] 6 (.pointer (some ⟨gw, 0, none⟩)) rfl (by kernel_rfl) (fun _ _ _ h => h) SS rfl (by intro wz hz; go_simp) ?_
        try simp only [zc1, zc2, zc3, Act.put, zc4, zc5, zc6]
        refine wpAnyZ_take [13] 7 (.pointer (some ⟨gw, 2, none⟩)) rfl (by kernel_rfl) (fun _ _ _ h => h) SS rfl (by intro wz hz; go_simp) ?_
        try simp only [zc1, zc2, zc3, Act.put, zc4, zc5, zc6]
        refine wpAnyZ_take [13] 8 (.slice a n c) rfl (by kernel_rfl) (fun _ _ _ h => h) SS rfl (by rintro wz ⟨hz, hz2⟩; have z : wz.cell? ⟨gw, 2, none⟩ = some (.slice a n c) := hz2.cell 2 (by show 2 < 14; decide); go_simp) ?_
        try simp only [zc1, zc2, zc3, Act.put, zc4, zc5, zc6]
        refine wpAnyZ_take [13] 9 (.int .i64 (n : Int)) rfl (by kernel_rfl) (fun _ _ _ h => h) SS rfl (by intro wz hz; go_simp) ?_
        try simp only [zc1, zc2, zc3, Act.put, zc4, zc5, zc6]
        refine wpAnyZ_take [13] 10 (.int .i64 (n : Int)) rfl (by kernel_rfl) (fun _ _ _ h => h) SS rfl (by intro wz hz; go_simp) ?_
        try simp only [zc1, zc2, zc3, Act.put, zc4, zc5, zc6]
        refine wpAnyZ_take [13] 11 (.agg #[.int .i64 x, .int .i64 (n : Int)]) rfl (by kernel_rfl) (fun _ _ _ h => h) SS rfl (by intro wz hz; go_simp) ?_
        try simp only [zc1, zc2, zc3, Act.put, zc4, zc5, zc6]
        generalize w2.drew = w3 at *
        have bn := BxS.new w3 82 #[.int .i64 0, .int .i64 0]
        have gn := World.grownBy_alloc w3 (.cells #[.int .i64 0, .int .i64 0] 82) none
        refine wpAnyZ_oneB 12 rfl (by kernel_rfl) (fun KK hKK => ?_)
        go_simp
        refine hKK _ _ (fun _ => ⟨SS.1.keep gn (by simp), SS.2.keep gn (by simp)⟩) ?_
        try simp only [zc1, zc2, zc3, Act.put, zc4, zc5, zc6]
        have G4 := grown_trans Gd gn
        have z3 := Gd.size
        generalize w3.alloc (.cells #[.int .i64 0, .int .i64 0] 82) = w4 at *
        refine wpAnyZ_oneB 13 rfl (by kernel_rfl) (fun KK hKK => ?_)
        refine step_stX _ rfl _ _ _ rfl w3.heap.size _ _ rfl rfl bn i2 rfl (by simp [Value.oneCell']) ?_
        intro w5 b65 u5
        refine hKK _ _ (fun h => absurd (by decide) h) ?_
        try simp only [zc1, zc2, zc3, Act.put, zc4, zc5, zc6]
        refine wpAnyZ_doneB (by kernel_rfl) ?_ _
        have l5 := SS.1.lt
        have hG5 : w2.grownBy w5 none := grown_far G4 u5 (fun z e => by have e := Option.some.inj e; omega)
        have h5 := h2.keepN hG5
        have KP5 := (KP.trans (KpT.none hG2)).trans (KpT.none hG5)
        have b55 := b52.keep hG5 (by simp)
        have hB2 := h2.g.size
        obtain ⟨g6, hg6⟩ : ∃ g6, w3.heap.size = g6 := ⟨_, rfl⟩
        have hl6 : w2.heap.size ≤ g6 := by omega
        rw [hg6] at b65 ⊢
        clear hg6 u5 bn gn SS G4 Gd z3 l5
        obtain ⟨z0, z1⟩ := b55.cell2
        obtain ⟨y0, y1⟩ := b65.cell2
        have x8 : w5.cell? ⟨gw, 8, none⟩ = some (.slice q1 m1 d1) := h5.bx.cell 8 (by show 8 < 14; decide)
        have hq6 : (Value.slice q1 m1 d1).ownBlock ≠ some g6 := fun e => by have := h2.O.lt e; omega
        refine HK5.out _ _ ?_
        clear HK5
        have hl1 : G1.length = m1 := h5.O.len
        have HL1 : Hid _ := hl1
        clear hl1
        by_cases hm1 : m1 < 1000
        · have hmi : (m1 : Int) < 1000 := by omega
          by_cases hzz : x = 0 ∧ y = 0
          · exact absurd hzz.2 (by omega)
          · have ha := fun wz => arr2_i64 x y 0 0 wz
            have hzb : (x == 0 && y == 0) = false := by
              by_cases e1 : x = 0
              · by_cases e2 : y = 0
                · exact absurd ⟨e1, e2⟩ hzz
                · simp [e2]
              · simp [e1]
            rw [hzb] at ha
            have HZZ : Hid _ := hzz
            clear hzz hzb
            by_cases hxy : x < (n : Int)
            · have HXY : Hid _ := hxy
              refine wp_seq_k fun K6 hK6 => ?_
              have HK6 : Hid _ := hK6
              clear hK6
              go_wp2
              refine HK6.out _ _ ?_
              clear HK6
              refine wp_cond_true rfl ?_
              refine ga_t5 _ wB w5 gw id nm mo bu st fi at' ti pa tr li a n c L q1 m1 d1 G1 na nn nc xs h5 g6 x (n : Int) b65 (by omega) (by omega) hq6 (fun c a a' wz e h => by cases a; cases a'; cases e; exact h) ?_
              intros
              rename_i w7 q7 d7 h7 k7
              simp only [Exit.inBlock, Exit.then]
              refine HK3.out _ _ ?_
              clear HK3
              go_wp2
              go_roundw
              case rel => exact ⟨j + 1, _, (m1 + 1), _, _, by omega, by go_num, h7, by omega, by show _ = _; rw [HS.out, HG.out, agP_in (by have := HL1.out; omega) HY.out (.inr HXY.out)], KP5.trans k7⟩
              case measure => simp [intOf] <;> omega
            · have HXY : Hid _ := hxy
              refine wp_seq_k fun K6 hK6 => ?_
              have HK6 : Hid _ := hK6
              clear hK6
              go_wp2
              refine HK6.out _ _ ?_
              clear HK6
              refine wp_cond_false rfl ?_
              refine wp_skip ?_
              simp only [Exit.inBlock, Exit.then]
              refine HK3.out _ _ ?_
              clear HK3
              go_wp2
              go_roundw
              case rel => exact ⟨j + 1, _, m1, _, _, by omega, by go_num, h5, by omega, by show _ = _; rw [HS.out, HG.out, agP_no2 HY.out HZZ.out HXY.out], KP5⟩
              case measure => simp [intOf] <;> omega
        · have hmi : ¬ (m1 : Int) < 1000 := by omega
          refine wp_seq_k fun K6 hK6 => ?_
          have HK6 : Hid _ := hK6
          clear hK6
          go_wp2
          refine HK6.out _ _ ?_
          clear HK6
          refine wp_cond_false rfl ?_
          refine wp_skip ?_
          simp only [Exit.inBlock, Exit.then]
          refine HK3.out _ _ ?_
          clear HK3
          go_wp2
          go_roundw
          case rel => exact ⟨j + 1, _, m1, _, _, by omega, by go_num, h5, by omega, by show _ = _; rw [HS.out, HG.out, agP_no1 (by have := HL1.out; omega)], KP5⟩
          case measure => simp [intOf] <;> omega
    · obtain rfl : j = gm := by omega
      have lj : ¬ (j : Int) < (j : Int) := by omega
      go_wp2
      first | go_end0 | refine bodyPost_ret (results_none rfl _ _ _) rfl ?_
      have hfin : GW wB wr gw id nm mo bu st fi at' ti pa tr li a n c L q1 m1 d1 (agN n G F j) na nn nc xs := by first | exact (HG.out ▸ h1) | (rw [HG.out]; exact h1)
      first | exact ⟨rfl, q1, m1, d1, hfin, KP⟩ | exact ⟨rfl, ⟨q1, m1, d1, hfin⟩, KP⟩
end
end Go.Proofs.Ytnimehkfnpepfaa
