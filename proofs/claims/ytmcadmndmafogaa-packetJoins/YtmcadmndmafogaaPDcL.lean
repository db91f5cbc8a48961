import Derived.Test.YtmcadmndmafogaaPDec
import Derived.Test.YtmcadmndmafogaaPSam
import Derived.Test.YtmcadmndmafogaaPFil
import Derived.Test.YtmcadmndmafogaaPOf
namespace Go.Proofs.Ytmcadmndmafogaa
open Go.RowKit
set_option maxRecDepth 100000
set_option linter.unusedVariables false
set_option linter.unusedSimpArgs false

theorem dcD_le (B : List Nat) : (dcD B).length ≤ 65536 := by
  unfold dcD
  split
  · rw [List.length_take]
    have := Nat.mod_lt (hdV B 6) (show 0 < 65536 by decide)
    omega
  · simp
theorem sp_ne2 {w : World} {lo g : Nat} {a : Option Addr} {n cap : Nat} {L : List Nat} (h : Ans w lo a n cap L) (hg : w.heap.size ≤ g) : some g ≠ (Value.slice a n cap).ownBlock := by
  rcases h.cases with ⟨rfl, _, _⟩ | ⟨x, rfl, _, hx⟩
  · simp [Value.ownBlock]
  · simp only [Value.ownBlock, ne_eq, Option.some.injEq]; omega
theorem BxP.grownX {w w' : World} {g : Nat} {up se : Bool} {ap pt ct : Int} {a : Option Addr} {n cap : Nat} {r : Option Nat} (h : BxP w g up se ap pt ct a n cap) (hg : w.grownBy w' r) (hne : some g ≠ r) : BxP w' g up se ap pt ct a n cap := h.keep hg hne
theorem hdist {w : World} {lo h b off : Nat} {a : Option Addr} {n cap m c : Nat} {L : List Nat} (hA : Ans w lo a n cap L) (hlo : h < lo) (e : a = some ⟨b, off, none⟩) : some b ≠ (Value.slice (some ⟨h, 0, none⟩) m c).ownBlock := by
  rcases hA.cases with ⟨rfl, _, _⟩ | ⟨x, rfl, hx, _⟩
  · cases e
  · cases e
    simp only [Value.ownBlock, ne_eq, Option.some.injEq]; omega
set_option maxHeartbeats 8000000 in
theorem pdec_walk (a : Option Addr) (n cap : Nat) (B : List Nat) (w : World) (hR : Rd w a n cap B) (hn : n ≤ 140737488351232) :
    Calls Try.prog 4 #[.slice a n cap] w fun e w' => e = .returned (.bool true) ∧ Below w.heap.size w w' := by
  have t1 : True := trivial
  have hL := dcD_le B
  have hP := fun wz hz => packetOf_any a n cap B wz hz (by omega)
  have hQ := fun (az : Option Addr) (cz : Nat) wz hz => decode_any az n cz B wz hz
  have hS := fun (az bz : Option Addr) (nz mz cz dz : Nat) wz ha hb => samePacket_any (dcU B) (dcS B) (dcA B : Nat) (dcP B : Nat) (dcC B : Nat) az bz nz mz cz dz (dcD B) wz ha hb
  generalize dcU B = up at hP hQ hS
  generalize dcS B = se at hP hQ hS
  generalize dcA B = ap at hP hQ hS
  generalize dcP B = pt at hP hQ hS
  generalize dcC B = ct at hP hQ hS
  generalize dcK B = ck at hP hQ hS
  generalize dcE B = ce at hP hQ hS
  generalize dcD B = D at hP hQ hS hL
  unfold pkV at hP hQ hS
  have i6 := Try.info_pk
  go_enter Try.func4, Try.ntmps4
  go_wp2_with (first
    | (go_at_call 9; have _t := t1; clear t1; refine (roomy_any a n cap B w hR hn).mono ?_; rintro e w1 ⟨rfl, ⟨Dh, hh1⟩, g1⟩; have hR1 := hR.keep g1; have t2 : True := trivial)
    | (go_at_call 17; have _t := t2; clear t2; refine (hP w1 hR1).mono ?_; rintro e w2 ⟨aw, nw, cw, rfl, hA2, g2⟩; have p2 := BxP.new w2 up se (ap : Int) (pt : Int) (ct : Int) aw nw cw; have gA2 := World.grownBy_alloc w2 (.cells #[.bool up, .bool se, .int .i64 (ap : Int), .int .i64 (pt : Int), .int .i64 (ct : Int), .slice aw nw cw] 25) none; generalize hw2 : w2.alloc (.cells #[.bool up, .bool se, .int .i64 (ap : Int), .int .i64 (pt : Int), .int .i64 (ct : Int), .slice aw nw cw] 25) = v2 at p2 gA2; have h12 := grown_trans g2 gA2; have hH2 := (hh1.keep h12).rd hR.byte hR.len hn; have t3 : True := trivial)
    | (go_at_call 18; have _t := t3; clear t3; refine (hQ _ _ v2 hH2).mono ?_; rintro e w3 ⟨aa, na, ca, rfl, hA3, g3⟩; have p3 := BxP.new w3 up se (ap : Int) (pt : Int) (ct : Int) aa na ca; have gA3 := World.grownBy_alloc w3 (.cells #[.bool up, .bool se, .int .i64 (ap : Int), .int .i64 (pt : Int), .int .i64 (ct : Int), .slice aa na ca] 25) none; generalize hw3 : w3.alloc (.cells #[.bool up, .bool se, .int .i64 (ap : Int), .int .i64 (pt : Int), .int .i64 (ct : Int), .slice aa na ca] 25) = v3 at p3 gA3; have h23 := grown_trans g3 gA3; have hH3 := hH2.keep h23; have t4 : True := trivial)
    | (go_at_call 18; have _t := t4; clear t4; refine (hQ _ _ v3 hH3).mono ?_; rintro e w4 ⟨ab, nb, cb, rfl, hA4, g4⟩; have p4 := BxP.new w4 up se (ap : Int) (pt : Int) (ct : Int) ab nb cb; have gA4 := World.grownBy_alloc w4 (.cells #[.bool up, .bool se, .int .i64 (ap : Int), .int .i64 (pt : Int), .int .i64 (ct : Int), .slice ab nb cb] 25) none; generalize hw4 : w4.alloc (.cells #[.bool up, .bool se, .int .i64 (ap : Int), .int .i64 (pt : Int), .int .i64 (ct : Int), .slice ab nb cb] 25) = v4 at p4 gA4; have h34 := grown_trans g4 gA4; have q2 := p2.keep (grown_trans h23 h34) (by simp); have q3 := p3.keep h34 (by simp); obtain ⟨x0, x1, x2, x3, x4, x5⟩ := q2.cell; obtain ⟨y0, y1, y2, y3, y4, y5⟩ := q3.cell; obtain ⟨z0, z1, z2, z3, z4, z5⟩ := p4.cell; have e1 := (hA2.keep (grown_trans gA2 (grown_trans h23 h34))).rd; have e2 := (hA3.keep (grown_trans gA3 h34)).rd; have e3 := (hA4.keep gA4).rd; have t5 : True := trivial)
    | (go_at_call 19; have _t := t5; clear t5; refine (hS _ _ _ _ _ _ v4 e2 e1).mono ?_; rintro e w5 ⟨rfl, g5⟩; clear x0 x1 x2 x3 x4 x5 y0 y1 y2 y3 y4 y5 z0 z1 z2 z3 z4 z5; have r2 := q2.keep g5 (by simp); have r4 := p4.keep g5 (by simp); obtain ⟨x0, x1, x2, x3, x4, x5⟩ := r2.cell; obtain ⟨z0, z1, z2, z3, z4, z5⟩ := r4.cell; have t6 : True := trivial)
    | (go_at_call 19; have _t := t6; clear t6; refine (hS _ _ _ _ _ _ w5 (e3.keep g5) (e1.keep g5)).mono ?_; rintro e w6 ⟨rfl, g6⟩; clear x0 x1 x2 x3 x4 x5 z0 z1 z2 z3 z4 z5; have g46 := grown_trans g5 g6; have g26 := grown_trans h23 (grown_trans h34 g46); have g16 := grown_trans h12 g26; have t7 : True := trivial)
    | (go_at_call 16; have _t := t7; clear t7; refine (left_any w.heap.size a n cap B Dh w6 (hh1.keep g16) (hR1.keep g16) hn).mono ?_; rintro e w7 ⟨rfl, g7⟩; have g47 := grown_trans g46 g7; have y5 := (q3.keep g47 (by simp)).cell.2.2.2.2.2; have hA7 := hA3.keep (grown_trans gA3 (grown_trans h34 g47)); have t8 : True := trivial)
    | (go_at_call 20; have _t := t8; clear t8; refine (spoil_any hA7 (by have := hA3.len; omega)).mono ?_; rintro e w8 ⟨rfl, g8⟩; clear y5; have g17 := grown_trans g16 g7; have hne8 : some w.heap.size ≠ (Value.slice aa na ca).ownBlock := sp_ne hA3 (Nat.lt_of_lt_of_le hh1.blk.lt h12.size); have hh8 := (hh1.keep g17).grown g8 hne8; have hAh := hh8.ans hR.byte hR.len hn (Nat.le_refl _); have hlo1 : w.heap.size < w1.heap.size := hh1.blk.lt; have hlo3 : w.heap.size < v3.heap.size := (Nat.lt_of_lt_of_le hlo1 (Nat.le_trans h12.size h23.size)); have n2 : some w2.heap.size ≠ (Value.slice (some ⟨w.heap.size, 0, none⟩) n (n + 5)).ownBlock := (by have := g2.size; simp [Value.ownBlock]; omega); have n4 : some w4.heap.size ≠ (Value.slice (some ⟨w.heap.size, 0, none⟩) n (n + 5)).ownBlock := (by have := g4.size; simp [Value.ownBlock]; omega); have t9 : True := trivial)
    | (go_at_call 20; have _t := t9; clear t9; refine (spoil_any hAh (by omega)).mono ?_; rintro e w9 ⟨rfl, g9⟩; have q2' := ((q2.keep g47 (by simp)).grownX g8 (sp_ne hA3 p2.lt)).grownX g9 n2; have q4' := ((p4.keep g47 (by simp)).grownX g8 (sp_ne2 hA3 (Nat.le_trans gA3.size g4.size))).grownX g9 n4; obtain ⟨x0, x1, x2, x3, x4, x5⟩ := q2'.cell; obtain ⟨z0, z1, z2, z3, z4, z5⟩ := q4'.cell; have f1 := ((e1.keep g47).grown g8 (hA3.earlier hA2 gA2.size)).grown g9 (fun b off e => hdist hA2 hlo1 e); have f3 := ((e3.keep g47).grown g8 (hA3.later hA4 gA3.size)).grown g9 (fun b off e => hdist hA4 hlo3 e); have t10 : True := trivial)
    | (go_at_call 19; have _t := t10; clear t10; refine (hS _ _ _ _ _ _ w9 f3 f1).mono ?_; rintro e w10 ⟨rfl, g10⟩))
  go_ret
  have G := grown_trans g1 g17
  have G8 := grown_far G g8 (hA3.far _ (Nat.le_trans (Nat.le_of_lt hlo1) h12.size))
  have G9 := grown_far G8 g9 (fun g e => by have e2 : w.heap.size = g := Option.some.inj e; omega)
  exact ⟨rfl, (Below.refl _ _).grown (grown_trans G9 g10) (Nat.le_refl _) (fun k hk => by cases hk)⟩
end Go.Proofs.Ytmcadmndmafogaa
