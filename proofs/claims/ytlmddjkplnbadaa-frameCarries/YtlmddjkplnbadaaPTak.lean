import Derived.Test.YtlmddjkplnbadaaKxNs
namespace Go.Proofs.Ytlmddjkplnbadaa
open Go.RowKit
set_option maxRecDepth 100000
set_option linter.unusedVariables false
set_option linter.unusedSimpArgs false

/-- a box with a number -/
def BxI (w : World) (g : Nat) (x : Int) : Prop := w.heap[g]? = some (.cells #[.int .i64 x] 3)
theorem BxI.cell {w : World} {g : Nat} {x : Int} (h : BxI w g x) : w.cell? ⟨g, 0, none⟩ = some (.int .i64 x) := by simp [World.cell?, show w.heap[g]? = _ from h]
theorem BxI.free {w : World} {g : Nat} {x : Int} (h : BxI w g x) : w.frozen? ⟨g, 0, none⟩ = false := by simp [World.frozen?, show w.heap[g]? = _ from h]
theorem BxI.lt {w : World} {g : Nat} {x : Int} (h : BxI w g x) : g < w.heap.size := (Array.getElem?_eq_some_iff.1 h).1
theorem BxI.set {w : World} {g : Nat} {x : Int} (h : BxI w g x) (y : Int) : BxI (w.setCell ⟨g, 0, none⟩ (.int .i64 y)) g y := by
  unfold BxI
  rw [setCell_eq_setRow w g 0 _ _ _ _ h]
  exact setRow_heap w g _ _ _ _ h
theorem BxI.keep {w w' : World} {g : Nat} {x : Int} {r : Option Nat} (h : BxI w g x) (hg : w.grownBy w' r) (hne : some g ≠ r) : BxI w' g x := (hg.block g h.lt hne).trans h
theorem BxI.new (w : World) (x : Int) : BxI (w.alloc (.cells #[.int .i64 x] 3)) w.heap.size x := heap_alloc_new w _
theorem take_val (H m k : Nat) (hk : k ≤ 16) (hH : H < 281474976710656) : wrap64 (bits .and .u64 ((H : Int) / 2 ^ m) (IntKind.u64.wrap (IntKind.u64.wrap (2 ^ k) - 1))) = ((H / 2 ^ m % 2 ^ k : Nat) : Int) := by
  have hp : 2 ^ k ≤ 65536 := Nat.pow_le_pow_right (n := 2) (by decide) hk
  have hq : 0 < 2 ^ k := Nat.pow_pos (by decide)
  have hd : H / 2 ^ m < 281474976710656 := Nat.lt_of_le_of_lt (Nat.div_le_self _ _) hH
  have e1 : (2 : Int) ^ k = ((2 ^ k : Nat) : Int) := by simp
  have e2 : (H : Int) / 2 ^ m = ((H / 2 ^ m : Nat) : Int) := by simp
  have e3 : IntKind.u64.wrap (IntKind.u64.wrap (2 ^ k) - 1) = ((2 ^ k - 1 : Nat) : Int) := by
    rw [e1, wrapU, wrapU]
    generalize 2 ^ k = q at hp hq
    omega
  rw [e3, e2, u64_and_nat _ _ (by omega) (by omega), Nat.and_two_pow_sub_one_eq_mod]
  have hm : H / 2 ^ m % 2 ^ k < 65536 := Nat.lt_of_lt_of_le (Nat.mod_lt _ hq) hp
  unfold wrap64
  generalize H / 2 ^ m % 2 ^ k = r at hm
  omega
set_option maxHeartbeats 4000000 in
theorem take_any (k l g h H : Nat) (w : World) (hI : BxI w g (l : Int)) (hU : BxU w h H) (hne : g ≠ h) (hk : k ≤ 16) (hl : k ≤ l) (hl2 : l ≤ 48) (hH : H < 281474976710656) :
    Calls Try.prog 92 #[.int .i64 k, .pointer (some ⟨g, 0, none⟩), .pointer (some ⟨h, 0, none⟩)] w fun e w' => e = .returned (.int .i64 ((H / 2 ^ (l - k) % 2 ^ k : Nat) : Int)) ∧ BxI w' g ((l - k : Nat) : Int) ∧ w.grownBy w' (some g) := by
  have hc := hI.cell
  have hf := hI.free
  obtain ⟨m, rfl⟩ : ∃ m, l = m + k := ⟨l - k, by omega⟩
  have em : m + k - k = m := by omega
  rw [em]
  have hs : ((m + k : Nat) : Int) - (k : Int) = (m : Int) := by omega
  have hS := hI.set (m : Int)
  have gS := grown_set w g 0 (.int .i64 (m : Int))
  have hU2 := hU.keep gS (by simp; omega)
  have hv : Hid (_ = _) := take_val H m k hk hH
  generalize hws : w.setCell ⟨g, 0, none⟩ (.int .i64 (m : Int)) = ws at hS gS hU2
  have c1 := hS.cell
  have c2 := hU2.cell
  go_enter Try.func92, Try.ntmps92
  go_wp2
  go_quiet (fail)
  rw [hv.out]
  go_wp2
  go_ret
  have gd := grown_drewN ws nq (some g)
  exact ⟨rfl, hS.keep (grown_drewN ws nq none) (by simp), grown_trans gS gd⟩
theorem take_int (kz : Int) (k l g h H : Nat) (w : World) (ek : kz = k) (hI : BxI w g (l : Int)) (hU : BxU w h H) (hne : g ≠ h) (hk : k ≤ 16) (hl : k ≤ l) (hl2 : l ≤ 48) (hH : H < 281474976710656) :
    Calls Try.prog 92 #[.int .i64 kz, .pointer (some ⟨g, 0, none⟩), .pointer (some ⟨h, 0, none⟩)] w fun e w' => ∃ u : Nat, e = .returned (.int .i64 (u : Int)) ∧ Hid (u = H / 2 ^ (l - k) % 2 ^ k) ∧ u < 2 ^ k ∧ BxI w' g ((l - k : Nat) : Int) ∧ BxU w' h H ∧ w.grownBy w' (some g) := by
  subst ek
  refine (take_any k l g h H w hI hU hne hk hl hl2 hH).mono ?_
  rintro e w' ⟨rfl, hB, hg⟩
  exact ⟨_, rfl, rfl, Nat.mod_lt _ (Nat.pow_pos (by decide)), hB, hU.keep hg (by simp; omega), hg⟩
/-- the fields of a packet in a box are written -/
theorem BxP.free {w : World} {g : Nat} {up se : Bool} {ap pt ct : Int} {a : Option Addr} {n cap : Nat} (h : BxP w g up se ap pt ct a n cap) (i : Nat) : w.frozen? ⟨g, i, none⟩ = false := frozen_of_row w g i _ _ h
theorem BxP.set5 {w : World} {g : Nat} {up se : Bool} {ap pt ct : Int} {a : Option Addr} {n cap : Nat} (h : BxP w g up se ap pt ct a n cap) (a' : Option Addr) (n' cap' : Nat) : BxP (w.setCell ⟨g, 5, none⟩ (.slice a' n' cap')) g up se ap pt ct a' n' cap' := by
  unfold BxP
  rw [setCell_eq_setRow w g 5 _ _ _ _ h]
  exact setRow_heap w g _ _ _ _ h
theorem BxP.set0 {w : World} {g : Nat} {up se : Bool} {ap pt ct : Int} {a : Option Addr} {n cap : Nat} (h : BxP w g up se ap pt ct a n cap) (x : Bool) : BxP (w.setCell ⟨g, 0, none⟩ (.bool x)) g x se ap pt ct a n cap := by
  unfold BxP
  rw [setCell_eq_setRow w g 0 _ _ _ _ h]
  exact setRow_heap w g _ _ _ _ h
theorem BxP.set1 {w : World} {g : Nat} {up se : Bool} {ap pt ct : Int} {a : Option Addr} {n cap : Nat} (h : BxP w g up se ap pt ct a n cap) (x : Bool) : BxP (w.setCell ⟨g, 1, none⟩ (.bool x)) g up x ap pt ct a n cap := by
  unfold BxP
  rw [setCell_eq_setRow w g 1 _ _ _ _ h]
  exact setRow_heap w g _ _ _ _ h
theorem BxP.set2 {w : World} {g : Nat} {up se : Bool} {ap pt ct : Int} {a : Option Addr} {n cap : Nat} (h : BxP w g up se ap pt ct a n cap) (x : Int) : BxP (w.setCell ⟨g, 2, none⟩ (.int .i64 x)) g up se x pt ct a n cap := by
  unfold BxP
  rw [setCell_eq_setRow w g 2 _ _ _ _ h]
  exact setRow_heap w g _ _ _ _ h
theorem BxP.set3 {w : World} {g : Nat} {up se : Bool} {ap pt ct : Int} {a : Option Addr} {n cap : Nat} (h : BxP w g up se ap pt ct a n cap) (x : Int) : BxP (w.setCell ⟨g, 3, none⟩ (.int .i64 x)) g up se ap x ct a n cap := by
  unfold BxP
  rw [setCell_eq_setRow w g 3 _ _ _ _ h]
  exact setRow_heap w g _ _ _ _ h
theorem BxP.set4 {w : World} {g : Nat} {up se : Bool} {ap pt ct : Int} {a : Option Addr} {n cap : Nat} (h : BxP w g up se ap pt ct a n cap) (x : Int) : BxP (w.setCell ⟨g, 4, none⟩ (.int .i64 x)) g up se ap pt x a n cap := by
  unfold BxP
  rw [setCell_eq_setRow w g 4 _ _ _ _ h]
  exact setRow_heap w g _ _ _ _ h
end Go.Proofs.Ytlmddjkplnbadaa
