import Derived.Test.YtnimehkfnpepfaaVEa
import Derived.Test.YtnimehkfnpepfaaVEb
import Derived.Test.YtnimehkfnpepfaaVDs
import Derived.Test.YtnimehkfnpepfaaPSam
namespace Go.Proofs.Ytnimehkfnpepfaa
open Go.RowKit
set_option maxRecDepth 100000
set_option linter.unusedVariables false
set_option linter.unusedSimpArgs false

def nd0 : Nd := ⟨0, 0, [], 0, 0, 0, [], [], 0, 0⟩
/-- a note's memory -/
structure NtM (w : World) (lo hi : Nat) (a : Option Addr) (n c : Nat) (L : List Nat) (q : Option Addr) (m d : Nat) (G : List (Nat × Nat)) : Prop where
  A : Ans w lo a n c L
  O : OwGp w lo q m d G
  ah : ∀ z, (Value.slice a n c).ownBlock = some z → z < hi
  oh : ∀ z, (Value.slice q m d).ownBlock = some z → z < hi
section
variable {w w' : World} {lo hi : Nat} {a : Option Addr} {n c : Nat} {L : List Nat} {q : Option Addr} {m d : Nat} {G : List (Nat × Nat)} {r : Option Nat}
theorem NtM.kR (h : NtM w lo hi a n c L q m d G) (hg : w.grownBy w' r) (hr : ∀ z, r = some z → z < lo ∨ hi ≤ z) : NtM w' lo hi a n c L q m d G := by
  refine ⟨h.A.kept hg ?_, ⟨h.O.own.kept hg ?_, h.O.len, h.O.new⟩, h.ah, h.oh⟩
  · cases hz : (Value.slice a n c).ownBlock with
    | none => exact .inl rfl
    | some z =>
      refine .inr (fun e => ?_)
      have h1 := h.A.new z hz
      have h2 := h.ah z hz
      rcases hr z e.symm with h3 | h3 <;> omega
  · cases hz : (Value.slice q m d).ownBlock with
    | none => exact .inl rfl
    | some z =>
      refine .inr (fun e => ?_)
      have h1 := h.O.new z hz
      have h2 := h.oh z hz
      rcases hr z e.symm with h3 | h3 <;> omega
theorem NtM.keep (h : NtM w lo hi a n c L q m d G) (hg : w.grownBy w' none) : NtM w' lo hi a n c L q m d G := h.kR hg (fun z e => by cases e)
end
theorem gp_lt {w : World} {lo : Nat} {q : Option Addr} {m d : Nat} {G : List (Nat × Nat)} (h : OwGp w lo q m d G) {g : Nat} (e : (Value.slice q m d).ownBlock = some g) : g < w.heap.size := by
  rcases h.own.2 with ⟨h1, _⟩ | ⟨g', cap', cur, h1, _, h3, _⟩
  · rw [h1] at e; cases e
  · rw [h1] at e
    have e : g' = g := Option.some.inj e
    subst e
    exact (Array.getElem?_eq_some_iff.1 h3).1
theorem OwGp.by8 {w w' : World} {lo lo' : Nat} {q : Option Addr} {m d : Nat} {G : List (Nat × Nat)} {a : Option Addr} {n c : Nat} {L : List Nat} (h : OwGp w lo q m d G) (hA : Ans w lo' a n c L) (hg : w.grownBy w' (Value.slice a n c).ownBlock) : OwGp w' lo q m d G := by
  refine ⟨h.own.kept hg ?_, h.len, h.new⟩
  cases hz : (Value.slice q m d).ownBlock with
  | none => exact .inl rfl
  | some z =>
    refine .inr (fun e => ?_)
    rcases h.own.2 with ⟨h1, _⟩ | ⟨g, _, cur, h1, _, h3, _⟩
    · rw [h1] at hz; cases hz
    · rw [h1] at hz
      have hz : g = z := Option.some.inj hz
      subst hz
      rcases hA.own.2 with ⟨k1, _⟩ | ⟨g', _, cur', k1, _, k3, _⟩
      · rw [k1] at e; cases e
      · rw [k1] at e
        have e : g = g' := Option.some.inj e
        subst e
        rw [h3] at k3
        injection k3 with k3
        injection k3 with _ k3
        exact absurd k3 (by decide)
def decE (oN : Option Nd) : Int := match oN with
  | some _ => 0
  | none => 8
/-- an answer, whatever it is -/
theorem RdNA.get {w w' : World} {oN : Option Nd} {e : Ending} (h : RdNA w oN e w') : ∃ a c q d, e = .returned (.tuple #[.agg (ntA ((oN.getD nd0).kd : Int) ((oN.getD nd0).id : Int) (strB (oN.getD nd0).nm) ((oN.getD nd0).si : Int) ((oN.getD nd0).su : Int) ((oN.getD nd0).at' : Int) (.slice a (oN.getD nd0).da.length c) (.slice q (oN.getD nd0).ga.length d) ((oN.getD nd0).o : Int) ((oN.getD nd0).co : Int)), .int .i64 (decE oN)]) ∧ NtM w' w.heap.size w'.heap.size a (oN.getD nd0).da.length c (oN.getD nd0).da q (oN.getD nd0).ga.length d (oN.getD nd0).ga := by
  cases oN with
  | none =>
    have h : e = .returned (.tuple #[.agg ntZ, .int .i64 8]) := h
    subst h
    exact ⟨none, 0, none, 0, rfl, Ans.nil _ _, OwGp.nil _ _, (fun z e => by cases e), (fun z e => by cases e)⟩
  | some N =>
    obtain ⟨v, rfl, a, n, c, q, m, d, rfl, hA, hO⟩ := h
    have h1 := hA.len
    have h2 := hO.len
    subst h1 h2
    exact ⟨a, c, q, d, rfl, hA, hO, (fun z e => ans_lt hA e), (fun z e => gp_lt hO e)⟩

set_option maxHeartbeats 32000000 in
theorem decodes_core (a : Option Addr) (n c : Nat) (L : List Nat) (w : World) (hL : Rd w a n c L) (hn : n ≤ 140737488351232) (kd id si su at' o co E : Int) (nm : ByteArray) (nn mm : Nat) (LL : List Nat) (G : List (Nat × Nat)) (hnn : nn ≤ 1000000) (hmm : mm ≤ 100000) (hE : E = 0 ∨ E = 8)
    (kW : ∀ (wz : World) (az : Option Addr) (cz : Nat), Rd wz az n cz L → Calls Try.prog 17 #[.slice az n cz] wz fun e w' => ∃ a' c' q' d', e = .returned (.tuple #[.agg #[.int .i64 kd, .int .i64 id, .string nm, .int .i64 si, .int .i64 su, .int .i64 at', .slice a' nn c', .slice q' mm d', .int .i64 o, .int .i64 co], .int .i64 E]) ∧ NtM w' wz.heap.size w'.heap.size a' nn c' LL q' mm d' G ∧ wz.grownBy w' none)
    (kX : ∀ (wz : World) (az : Option Addr) (cz : Nat), Rd wz az n cz L → Calls Try.prog 18 #[.slice az n cz] wz fun e w' => ∃ a' c' q' d', e = .returned (.tuple #[.agg #[.int .i64 kd, .int .i64 id, .string nm, .int .i64 si, .int .i64 su, .int .i64 at', .slice a' nn c', .slice q' mm d', .int .i64 o, .int .i64 co], .int .i64 E]) ∧ NtM w' wz.heap.size w'.heap.size a' nn c' LL q' mm d' G ∧ wz.grownBy w' none) :
    Calls Try.prog 4 #[.slice a n c] w fun e w' => e = .returned (.bool true) ∧ w.grownBy w' none := by
  have i10 := Try.info_nt
  have HE : Hid _ := hE
  clear hE
  have s0 : True := trivial
  go_enter Try.func4, Try.ntmps4
  go_wp2_with (first
    | (go_at_call 16; have _t := s0; clear s0; refine (roomy_any a n c L w hL hn).mono ?_; rintro e w1 ⟨rfl, ⟨RD, hRo⟩, y1⟩; have z1 := hRo.blk.lt; have s1 : True := trivial)
    | (go_at_call 17; have _t := s1; clear s1; refine (kW w1 a c (hL.keep y1)).mono ?_; rintro e w2a ⟨a2, c2, q2, d2, rfl, M2, y2a⟩; have bn2 := BxS.new w2a 27 #[.int .i64 0, .int .i64 0, .string ⟨#[]⟩, .int .i64 0, .int .i64 0, .int .i64 0, .slice none 0 0, .slice none 0 0, .int .i64 0, .int .i64 0]; have gn2 := World.grownBy_alloc w2a (.cells #[.int .i64 0, .int .i64 0, .string ⟨#[]⟩, .int .i64 0, .int .i64 0, .int .i64 0, .slice none 0 0, .slice none 0 0, .int .i64 0, .int .i64 0] 27) none; generalize hw2 : w2a.alloc (.cells #[.int .i64 0, .int .i64 0, .string ⟨#[]⟩, .int .i64 0, .int .i64 0, .int .i64 0, .slice none 0 0, .slice none 0 0, .int .i64 0, .int .i64 0] 27) = w2b at bn2 gn2; have t1 : True := trivial)
    | (have _t := t1; clear t1; refine wpList_stX _ rfl _ (.tmp 4) (.tmp 15) rfl w2a.heap.size _ _ rfl rfl bn2 i10 rfl (by simp [Value.oneCell']) ?_; intro w2c b2c u2c; have z2 := y2a.size; have l2 := bn2.lt; have G2 : w1.grownBy w2c none := grown_far (grown_trans y2a gn2) u2c (fun q e => by have e := Option.some.inj e; omega); have M2c := M2.keep gn2; have M2d := M2c.kR u2c (fun z e => .inr (by have e := Option.some.inj e; omega)); have z2c := u2c.size; have hRo2 := hRo.keep G2; have s2 : True := trivial)
    | (go_at_call 18; have _t := s2; clear s2; refine (kX w2c (some ⟨w.heap.size, 0, none⟩) (n + 5) (hRo2.rd hL.byte hL.len hn)).mono ?_; rintro e w3a ⟨a3, c3, q3, d3, rfl, M3, y3a⟩; have bn3 := BxS.new w3a 27 #[.int .i64 0, .int .i64 0, .string ⟨#[]⟩, .int .i64 0, .int .i64 0, .int .i64 0, .slice none 0 0, .slice none 0 0, .int .i64 0, .int .i64 0]; have gn3 := World.grownBy_alloc w3a (.cells #[.int .i64 0, .int .i64 0, .string ⟨#[]⟩, .int .i64 0, .int .i64 0, .int .i64 0, .slice none 0 0, .slice none 0 0, .int .i64 0, .int .i64 0] 27) none; generalize hw3 : w3a.alloc (.cells #[.int .i64 0, .int .i64 0, .string ⟨#[]⟩, .int .i64 0, .int .i64 0, .int .i64 0, .slice none 0 0, .slice none 0 0, .int .i64 0, .int .i64 0] 27) = w3b at bn3 gn3; have t2 : True := trivial)
    | (have _t := t2; clear t2; refine wpList_stX _ rfl _ (.tmp 6) (.tmp 20) rfl w3a.heap.size _ _ rfl rfl bn3 i10 rfl (by simp [Value.oneCell']) ?_; intro w3c b3c u3c; have z3 := y3a.size; have l3 := bn3.lt; have G3 : w2c.grownBy w3c none := grown_far (grown_trans y3a gn3) u3c (fun q e => by have e := Option.some.inj e; omega); have M3d := (M3.keep gn3).kR u3c (fun z e => .inr (by have e := Option.some.inj e; omega)); have z3c := u3c.size; have hRo3 := hRo2.keep G3; have b2e := b2c.keep G3 (by simp); have M2e := M2d.keep G3; have s3 : True := trivial)
    | (go_at_call 18; have _t := s3; clear s3; refine (kX w3c (some ⟨w.heap.size, 0, none⟩) (n + 5) (hRo3.rd hL.byte hL.len hn)).mono ?_; rintro e w4a ⟨a4, c4, q4, d4, rfl, M4, y4a⟩; have bn4 := BxS.new w4a 27 #[.int .i64 0, .int .i64 0, .string ⟨#[]⟩, .int .i64 0, .int .i64 0, .int .i64 0, .slice none 0 0, .slice none 0 0, .int .i64 0, .int .i64 0]; have gn4 := World.grownBy_alloc w4a (.cells #[.int .i64 0, .int .i64 0, .string ⟨#[]⟩, .int .i64 0, .int .i64 0, .int .i64 0, .slice none 0 0, .slice none 0 0, .int .i64 0, .int .i64 0] 27) none; generalize hw4 : w4a.alloc (.cells #[.int .i64 0, .int .i64 0, .string ⟨#[]⟩, .int .i64 0, .int .i64 0, .int .i64 0, .slice none 0 0, .slice none 0 0, .int .i64 0, .int .i64 0] 27) = w4b at bn4 gn4; have t3 : True := trivial)
    | (have _t := t3; clear t3; refine wpList_stX _ rfl _ (.tmp 8) (.tmp 25) rfl w4a.heap.size _ _ rfl rfl bn4 i10 rfl (by simp [Value.oneCell']) ?_; intro w4c b4c u4c; have z4 := y4a.size; have l4 := bn4.lt; have G4 : w3c.grownBy w4c none := grown_far (grown_trans y4a gn4) u4c (fun q e => by have e := Option.some.inj e; omega); have M4d := (M4.keep gn4).kR u4c (fun z e => .inr (by have e := Option.some.inj e; omega)); have z4c := u4c.size; have hRo4 := hRo3.keep G4; have b2f := b2e.keep G4 (by simp); have M2f := M2e.keep G4; have b3f := b3c.keep G4 (by simp); have M3f := M3d.keep G4; obtain ⟨e0, e1, e2, e3, e4, e5, e6, e7, e8, e9⟩ := BxS.cell10 b2f; obtain ⟨f0, f1, f2, f3, f4, f5, f6, f7, f8, f9⟩ := BxS.cell10 b3f; obtain ⟨g0, g1, g2, g3, g4, g5, g6, g7, g8, g9⟩ := BxS.cell10 b4c; have s4 : True := trivial)
    | (go_at_call 15; have _t := s4; clear s4; refine (sameNote_any kd id nm si su at' o co _ _ _ _ nn _ _ mm _ _ LL (gpF G) (gpF G) w4c M3f.A.rd M2f.A.rd M3f.O.rd M2f.O.rd (fun i h => rfl)).mono ?_; rintro e w5 ⟨rfl, y5⟩; clear e0 e1 e2 e3 e4 e5 e6 e7 e8 e9; clear f0 f1 f2 f3 f4 f5 f6 f7 f8 f9; clear g0 g1 g2 g3 g4 g5 g6 g7 g8 g9; have b25 := b2f.keep y5 (by simp); have b35 := b3f.keep y5 (by simp); have b45 := b4c.keep y5 (by simp); have M25 := M2f.keep y5; have M35 := M3f.keep y5; have M45 := M4d.keep y5; have hRo5 := hRo4.keep y5; obtain ⟨e0, e1, e2, e3, e4, e5, e6, e7, e8, e9⟩ := BxS.cell10 b25; obtain ⟨f0, f1, f2, f3, f4, f5, f6, f7, f8, f9⟩ := BxS.cell10 b35; obtain ⟨g0, g1, g2, g3, g4, g5, g6, g7, g8, g9⟩ := BxS.cell10 b45; have s5 : True := trivial)
    | (go_at_call 15; have _t := s5; clear s5; refine (sameNote_any kd id nm si su at' o co _ _ _ _ nn _ _ mm _ _ LL (gpF G) (gpF G) w5 M45.A.rd M25.A.rd M45.O.rd M25.O.rd (fun i h => rfl)).mono ?_; rintro e w6 ⟨rfl, y6⟩; clear e0 e1 e2 e3 e4 e5 e6 e7 e8 e9; clear f0 f1 f2 f3 f4 f5 f6 f7 f8 f9; clear g0 g1 g2 g3 g4 g5 g6 g7 g8 g9; have b26 := b25.keep y6 (by simp); have b36 := b35.keep y6 (by simp); have b46 := b45.keep y6 (by simp); have M26 := M25.keep y6; have M36 := M35.keep y6; have M46 := M45.keep y6; have hRo6 := hRo5.keep y6; have hL6 : Rd w6 a n c L := hL.keep (grown_trans (grown_trans (grown_trans (grown_trans (grown_trans y1 G2) G3) G4) y5) y6); have s6 : True := trivial)
    | (go_at_call 19; have _t := s6; clear s6; refine (dsum_any _ n _ L w6 (hRo6.rd hL.byte hL.len hn)).mono ?_; rintro e wx ⟨rfl, hwx⟩; have hwx := hwx.symm; subst hwx; have s7 : True := trivial)
    | (go_at_call 20; have _t := s7; clear s7; refine (fsum_any a n c L w6 hL6).mono ?_; rintro e wx ⟨rfl, hwx⟩; have hwx := hwx.symm; subst hwx; have s8 : True := trivial)
    | (go_at_call 21; have _t := s8; clear s8; refine (left_any w.heap.size a n c L RD w6 hRo6 hL6 hn).mono ?_; rintro e w7 ⟨rfl, y7⟩; have b27 := b26.keep y7 (by simp); have b37 := b36.keep y7 (by simp); have b47 := b46.keep y7 (by simp); have M27 := M26.keep y7; have M37 := M36.keep y7; have M47 := M46.keep y7; have hRo7 := hRo6.keep y7; obtain ⟨f0, f1, f2, f3, f4, f5, f6, f7, f8, f9⟩ := BxS.cell10 b37; have s9 : True := trivial)
    | (go_at_call 22; have _t := s9; clear s9; refine (spoil_any M37.A (by omega)).mono ?_; rintro e w8 ⟨rfl, y8⟩; have R8 : ∀ z, (Value.slice a3 nn c3).ownBlock = some z → w2c.heap.size ≤ z ∧ z < w3a.heap.size := fun z e => ⟨M37.A.new z e, M37.ah z e⟩; clear f0 f1 f2 f3 f4 f5 f6 f7 f8 f9; have b28 := b27.keep y8 (fun e => by have := R8 _ e.symm; omega); have b38 := b37.keep y8 (fun e => by have := R8 _ e.symm; omega); have b48 := b47.keep y8 (fun e => by have := R8 _ e.symm; omega); have M28 := M27.kR y8 (fun z e => .inr (by have := R8 z e; omega)); have M48 := M47.kR y8 (fun z e => .inl (by have := R8 z e; omega)); have O38 : OwGp w8 w2c.heap.size q3 mm d3 G := M37.O.by8 M37.A y8; have hRo8 := hRo7.grown y8 (fun e => by have := R8 _ e.symm; omega); obtain ⟨f0, f1, f2, f3, f4, f5, f6, f7, f8, f9⟩ := BxS.cell10 b38; have s10 : True := trivial)
    | (go_at_call 23; have _t := s10; clear s10; refine (overGaps_any w8 _ q3 mm d3 G O38 hmm).mono ?_; rintro e w9 ⟨rfl, y9⟩; have R9 : ∀ z, (Value.slice q3 mm d3).ownBlock = some z → w2c.heap.size ≤ z ∧ z < w3a.heap.size := fun z e => ⟨M37.O.new z e, M37.oh z e⟩; clear f0 f1 f2 f3 f4 f5 f6 f7 f8 f9; have b29 := b28.keep y9 (fun e => by have := R9 _ e.symm; omega); have b49 := b48.keep y9 (fun e => by have := R9 _ e.symm; omega); have M29 := M28.kR y9 (fun z e => .inr (by have := R9 z e; omega)); have M49 := M48.kR y9 (fun z e => .inl (by have := R9 z e; omega)); have hRo9 := hRo8.grown y9 (fun e => by have := R9 _ e.symm; omega); have s11 : True := trivial)
    | (go_at_call 22; have _t := s11; clear s11; refine (spoil_any (hRo9.ans hL.byte hL.len hn (Nat.zero_le _)) (by omega)).mono ?_; rintro e wA ⟨rfl, yA⟩; have yA : w9.grownBy wA (some w.heap.size) := yA; have b2A := b29.keep yA (fun e => by have e := Option.some.inj e; omega); have b4A := b49.keep yA (fun e => by have e := Option.some.inj e; omega); have M2A := M29.kR yA (fun z e => .inl (by have e := Option.some.inj e; omega)); have M4A := M49.kR yA (fun z e => .inl (by have e := Option.some.inj e; omega)); obtain ⟨e0, e1, e2, e3, e4, e5, e6, e7, e8, e9⟩ := BxS.cell10 b2A; obtain ⟨g0, g1, g2, g3, g4, g5, g6, g7, g8, g9⟩ := BxS.cell10 b4A; have s12 : True := trivial)
    | (go_at_call 15; have _t := s12; clear s12; refine (sameNote_any kd id nm si su at' o co _ _ _ _ nn _ _ mm _ _ LL (gpF G) (gpF G) wA M4A.A.rd M2A.A.rd M4A.O.rd M2A.O.rd (fun i h => rfl)).mono ?_; rintro e wB ⟨rfl, yB⟩))
  go_ret
  refine ⟨rfl, ?_⟩
  have K7 := grown_trans (grown_trans (grown_trans (grown_trans (grown_trans (grown_trans y1 G2) G3) G4) y5) y6) y7
  exact grown_trans (grown_far (grown_far (grown_far K7 y8 (fun z e => by have := R8 z e; omega)) y9 (fun z e => by have := R9 z e; omega)) yA (fun z e => by have e := Option.some.inj e; omega)) yB

theorem kind_len (k id : Nat) (c : List Nat) (N : Nd) (R : List Nat) (h : kindR k id c = some (N, R)) : N.da.length ≤ c.length ∧ N.ga.length ≤ c.length := by
  unfold kindR at h
  repeat' split at h
  all_goals first
    | (cases h; done)
    | (cases h; refine ⟨?_, ?_⟩ <;> simp [gpR_len] <;> omega)
theorem dec_len (D : List Nat) : ((decN D).getD nd0).da.length ≤ 1000000 ∧ ((decN D).getD nd0).ga.length ≤ 100000 := by
  have key : ∀ N, rdN D = some N → N.da.length ≤ 1031 ∧ N.ga.length ≤ 1031 := by
    intro N h
    rw [rdN_of] at h
    by_cases h1 : 1031 < D.length
    · rw [if_pos h1] at h; cases h
    · rw [if_neg h1] at h
      unfold noteR at h
      by_cases h3 : D.length < 3
      · rw [if_pos h3] at h; cases h
      · rw [if_neg h3] at h
        cases hk : kindR (hdV D 1) (hdV (D.drop 1) 2) (D.drop 3) with
        | none => rw [hk] at h; cases h
        | some P =>
          obtain ⟨M, R⟩ := P
          rw [hk, lastR_some] at h
          have hM : M = N := by
            by_cases hR : R.length = 0
            · rw [if_pos hR] at h; exact Option.some.inj h
            · rw [if_neg hR] at h; cases h
          have := kind_len _ _ _ _ _ hk
          rw [List.length_drop, hM] at this
          omega
  rw [dec_doc]
  unfold docF
  cases hr : rdN D with
  | none => exact ⟨Nat.zero_le _, Nat.zero_le _⟩
  | some N =>
    have h := key N hr
    dsimp only
    by_cases hm : mayN N = true
    · rw [if_pos hm]; show N.da.length ≤ _ ∧ N.ga.length ≤ _; omega
    · rw [if_neg hm]; exact ⟨Nat.zero_le _, Nat.zero_le _⟩
theorem decodes_walk (a : Option Addr) (n c : Nat) (L : List Nat) (w : World) (hL : Rd w a n c L) (hn : n ≤ 140737488351232) :
    Calls Try.prog 4 #[.slice a n c] w fun e w' => e = .returned (.bool true) ∧ w.grownBy w' none := by
  obtain ⟨h1, h2⟩ := dec_len L
  generalize hN : (decN L).getD nd0 = N at h1 h2
  refine decodes_core a n c L w hL hn (N.kd : Int) (N.id : Int) (N.si : Int) (N.su : Int) (N.at' : Int) (N.o : Int) (N.co : Int) (decE (decN L)) (strB N.nm) N.da.length N.ga.length N.da N.ga h1 h2 (by cases decN L; exact .inr rfl; exact .inl rfl) ?_ ?_
  · intro wz az cz hz
    refine (rnote_any az n cz L wz hz hn).mono ?_
    rintro e w' ⟨h, g⟩
    rw [doc_is_dec] at h
    have h := h.get
    rw [hN] at h
    obtain ⟨a', c', q', d', he, hM⟩ := h
    exact ⟨a', c', q', d', he, hM, g⟩
  · intro wz az cz hz
    refine (decode_any az n cz L wz hz).mono ?_
    rintro e w' ⟨h, g⟩
    have h := h.get
    rw [hN] at h
    obtain ⟨a', c', q', d', he, hM⟩ := h
    exact ⟨a', c', q', d', he, hM, g⟩
end Go.Proofs.Ytnimehkfnpepfaa
