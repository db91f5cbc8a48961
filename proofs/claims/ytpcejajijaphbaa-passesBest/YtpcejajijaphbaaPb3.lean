import Derived.Test.YtpcejajijaphbaaPb2
import Derived.Shelf.SlSortCmp.Whole1
import Derived.Test.YtpcejajijaphbaaProg
namespace Go.Proofs.Ytpcejajijaphbaa
open Go.RowKit
set_option maxRecDepth 100000
set_option linter.unusedVariables false
set_option linter.unusedSimpArgs false

section
/-- a row's chain of nodes -/
def Nd (w : World) (lo : Nat) : List Nat → Int → Nat → Prop
  | [], wo, g => lo ≤ g ∧ wo = 0 ∧ BxS w g 49 #[.int .i64 0, .pointer none, .int .i64 0, .int .i64 0]
  | i :: L, wo, g => lo ≤ g ∧ ∃ g' wo', BxS w g 49 #[.int .i64 (i : Int), .pointer (some ⟨g', 0, none⟩), .int .i64 wo, .int .i64 ((L.length + 1 : Nat) : Int)] ∧ Nd w lo L wo' g'
theorem Nd.lo {w : World} {lo : Nat} {L : List Nat} {wo : Int} {g : Nat} (h : Nd w lo L wo g) : lo ≤ g := by
  cases L with
  | nil => exact h.1
  | cons i L => exact h.1
theorem Nd.box {w : World} {lo : Nat} {r : Rv} {g : Nat} (h : Nd w lo r.1 r.2 g) : ∃ p, p.oneCell' = true ∧ BxS w g 49 #[.int .i64 (hdP r : Int), p, .int .i64 r.2, .int .i64 (r.1.length : Int)] := by
  obtain ⟨L, wo⟩ := r
  cases L with
  | nil =>
    obtain ⟨_, e, b⟩ := h
    have e : wo = 0 := e
    subst e
    exact ⟨.pointer none, rfl, b⟩
  | cons i L =>
    obtain ⟨_, g', wo', b, _⟩ := h
    exact ⟨_, rfl, b⟩
theorem Nd.kR {w w' : World} {lo : Nat} {r : Option Nat} (hg : w.grownBy w' r) (hr : ∀ z, r = some z → ∃ t cs, BxS w z t cs ∧ 49 ≠ t) : ∀ (L : List Nat) (wo : Int) (g : Nat), Nd w lo L wo g → Nd w' lo L wo g := by
  have kb : ∀ {g : Nat} {A : Array Value}, BxS w g 49 A → BxS w' g 49 A := fun b => b.keep hg (fun e => by
    obtain ⟨t, cs, b2, ht⟩ := hr _ e.symm
    exact BxS.apart b b2 ht rfl)
  intro L
  induction L with
  | nil => intro wo g h; exact ⟨h.1, h.2.1, kb h.2.2⟩
  | cons i L ih =>
    intro wo g h
    obtain ⟨h1, g', wo', b, h2⟩ := h
    exact ⟨h1, g', wo', kb b, ih wo' g' h2⟩
theorem Nd.keep {w w' : World} {lo : Nat} {L : List Nat} {wo : Int} {g : Nat} (h : Nd w lo L wo g) (hg : w.grownBy w' none) : Nd w' lo L wo g := Nd.kR hg (fun z e => by cases e) L wo g h
/-- rows in memory: a slice of pointers -/
structure RsM (w : World) (lo : Nat) (a : Option Addr) (n c : Nat) (gs : List Nat) (Rs : List Rv) : Prop where
  o : AnsX 45 w lo a n c (gs.map fun g => Value.pointer (some ⟨g, 0, none⟩))
  len : Rs.length = gs.length
  nd : ∀ (k g : Nat) (r : Rv), gs[k]? = some g → Rs[k]? = some r → Nd w lo r.1 r.2 g
theorem RsM.keep {w w' : World} {lo : Nat} {a : Option Addr} {n c : Nat} {gs : List Nat} {Rs : List Rv} (h : RsM w lo a n c gs Rs) (hg : w.grownBy w' none) : RsM w' lo a n c gs Rs := ⟨h.o.keep hg, h.len, fun k g r h1 h2 => (h.nd k g r h1 h2).keep hg⟩
theorem RsM.nl {w : World} {lo : Nat} {a : Option Addr} {n c : Nat} {gs : List Nat} {Rs : List Rv} (h : RsM w lo a n c gs Rs) : Rs.length = n := by
  have := h.o.len
  rw [List.length_map] at this
  rw [h.len, this]
set_option maxHeartbeats 16000000 in
theorem better_any (a b : Rv) (g1 g2 : Nat) (p1 p2 : Value) (w : World) (b1 : BxS w g1 49 #[.int .i64 (hdP a : Int), p1, .int .i64 a.2, .int .i64 (a.1.length : Int)]) (b2 : BxS w g2 49 #[.int .i64 (hdP b : Int), p2, .int .i64 b.2, .int .i64 (b.1.length : Int)]) :
    Calls Try.prog 20 #[.pointer (some ⟨g1, 0, none⟩), .pointer (some ⟨g2, 0, none⟩)] w fun e w' => e = .returned (.bool (btB a b)) ∧ w.grownBy w' none := by
  go_enter Try.func20, Try.ntmps20
  refine wp_seq_k fun K0 hK0 => ?_
  have HK0 : Hid _ := hK0
  clear hK0
  go_wp2
  refine HK0.out _ _ ?_
  clear HK0
  refine wp_seq_k fun K1 hK1 => ?_
  have HK1 : Hid _ := hK1
  clear hK1
  have Gd := grown_drew w none
  have SS : BxS w.drew g1 49 #[.int .i64 (hdP a : Int), p1, .int .i64 a.2, .int .i64 (a.1.length : Int)] ∧ BxS w.drew g2 49 #[.int .i64 (hdP b : Int), p2, .int .i64 b.2, .int .i64 (b.1.length : Int)] := ⟨b1.keep Gd (by simp), b2.keep Gd (by simp)⟩
  refine wp_regionM (fun wz => BxS wz g1 49 #[.int .i64 (hdP a : Int), p1, .int .i64 a.2, .int .i64 (a.1.length : Int)] ∧ BxS wz g2 49 #[.int .i64 (hdP b : Int), p2, .int .i64 b.2, .int .i64 (b.1.length : Int)]) [] #[false, false, false, false, false, false, false, false, false, false, false, false, false, false, false, false, false, false, false, false, false, false, false, false, false, false, false, false, false, false, false] rfl (by kernel_rfl) ?_
  generalize w.drew = wd at *
  refine wpAnyY_take [] 0 (.pointer (some ⟨g2, 0, none⟩)) rfl (by kernel_rfl) (fun _ _ _ h => h) SS rfl (by rintro wz ⟨z1, z2⟩; go_simp) ?_
  try simp only [List.getElem_toArray, List.getElem_cons_succ, List.getElem_cons_zero, Act.put, List.setIfInBounds_toArray, List.set_cons_zero, List.set_cons_succ]
  refine wpAnyY_take [] 1 (.pointer (some ⟨g2, 0, none⟩)) rfl (by kernel_rfl) (fun _ _ _ h => h) SS rfl (by rintro wz ⟨z1, z2⟩; go_simp) ?_
  try simp only [List.getElem_toArray, List.getElem_cons_succ, List.getElem_cons_zero, Act.put, List.setIfInBounds_toArray, List.set_cons_zero, List.set_cons_succ]
  refine wpAnyY_take [] 2 (.pointer (some ⟨g2, 2, none⟩)) rfl (by kernel_rfl) (fun _ _ _ h => h) SS rfl (by rintro wz ⟨z1, z2⟩; go_simp) ?_
  try simp only [List.getElem_toArray, List.getElem_cons_succ, List.getElem_cons_zero, Act.put, List.setIfInBounds_toArray, List.set_cons_zero, List.set_cons_succ]
  refine wpAnyY_take [] 3 (.int .i64 b.2) rfl (by kernel_rfl) (fun _ _ _ h => h) SS rfl (by rintro wz ⟨z1, z2⟩; have z : wz.cell? ⟨g2, 2, none⟩ = some (.int .i64 b.2) := z2.cell 2 (by show 2 < 4; decide); go_simp) ?_
  try simp only [List.getElem_toArray, List.getElem_cons_succ, List.getElem_cons_zero, Act.put, List.setIfInBounds_toArray, List.set_cons_zero, List.set_cons_succ]
  refine wpAnyY_take [] 4 (.pointer (some ⟨g1, 0, none⟩)) rfl (by kernel_rfl) (fun _ _ _ h => h) SS rfl (by rintro wz ⟨z1, z2⟩; go_simp) ?_
  try simp only [List.getElem_toArray, List.getElem_cons_succ, List.getElem_cons_zero, Act.put, List.setIfInBounds_toArray, List.set_cons_zero, List.set_cons_succ]
  refine wpAnyY_take [] 5 (.pointer (some ⟨g1, 0, none⟩)) rfl (by kernel_rfl) (fun _ _ _ h => h) SS rfl (by rintro wz ⟨z1, z2⟩; go_simp) ?_
  try simp only [List.getElem_toArray, List.getElem_cons_succ, List.getElem_cons_zero, Act.put, List.setIfInBounds_toArray, List.set_cons_zero, List.set_cons_succ]
  refine wpAnyY_take [] 6 (.pointer (some ⟨g1, 2, none⟩)) rfl (by kernel_rfl) (fun _ _ _ h => h) SS rfl (by rintro wz ⟨z1, z2⟩; go_simp) ?_
  try simp only [List.getElem_toArray, List.getElem_cons_succ, List.getElem_cons_zero, Act.put, List.setIfInBounds_toArray, List.set_cons_zero, List.set_cons_succ]
  refine wpAnyY_take [] 7 (.int .i64 a.2) rfl (by kernel_rfl) (fun _ _ _ h => h) SS rfl (by rintro wz ⟨z1, z2⟩; have z : wz.cell? ⟨g1, 2, none⟩ = some (.int .i64 a.2) := z1.cell 2 (by show 2 < 4; decide); go_simp) ?_
  try simp only [List.getElem_toArray, List.getElem_cons_succ, List.getElem_cons_zero, Act.put, List.setIfInBounds_toArray, List.set_cons_zero, List.set_cons_succ]
  refine wpAnyY_take [] 9 (.pointer (some ⟨g1, 0, none⟩)) rfl (by kernel_rfl) (fun _ _ _ h => h) SS rfl (by rintro wz ⟨z1, z2⟩; go_simp) ?_
  try simp only [List.getElem_toArray, List.getElem_cons_succ, List.getElem_cons_zero, Act.put, List.setIfInBounds_toArray, List.set_cons_zero, List.set_cons_succ]
  refine wpAnyY_take [] 10 (.pointer (some ⟨g1, 0, none⟩)) rfl (by kernel_rfl) (fun _ _ _ h => h) SS rfl (by rintro wz ⟨z1, z2⟩; go_simp) ?_
  try simp only [List.getElem_toArray, List.getElem_cons_succ, List.getElem_cons_zero, Act.put, List.setIfInBounds_toArray, List.set_cons_zero, List.set_cons_succ]
  refine wpAnyY_take [] 11 (.pointer (some ⟨g1, 3, none⟩)) rfl (by kernel_rfl) (fun _ _ _ h => h) SS rfl (by rintro wz ⟨z1, z2⟩; go_simp) ?_
  try simp only [List.getElem_toArray, List.getElem_cons_succ, List.getElem_cons_zero, Act.put, List.setIfInBounds_toArray, List.set_cons_zero, List.set_cons_succ]
  refine wpAnyY_take [] 12 (.int .i64 (a.1.length : Int)) rfl (by kernel_rfl) (fun _ _ _ h => h) SS rfl (by rintro wz ⟨z1, z2⟩; have z : wz.cell? ⟨g1, 3, none⟩ = some (.int .i64 (a.1.length : Int)) := z1.cell 3 (by show 3 < 4; decide); go_simp) ?_
  try simp only [List.getElem_toArray, List.getElem_cons_succ, List.getElem_cons_zero, Act.put, List.setIfInBounds_toArray, List.set_cons_zero, List.set_cons_succ]
  refine wpAnyY_take [] 13 (.pointer (some ⟨g2, 0, none⟩)) rfl (by kernel_rfl) (fun _ _ _ h => h) SS rfl (by rintro wz ⟨z1, z2⟩; go_simp) ?_
  try simp only [List.getElem_toArray, List.getElem_cons_succ, List.getElem_cons_zero, Act.put, List.setIfInBounds_toArray, List.set_cons_zero, List.set_cons_succ]
  refine wpAnyY_take [] 14 (.pointer (some ⟨g2, 0, none⟩)) rfl (by kernel_rfl) (fun _ _ _ h => h) SS rfl (by rintro wz ⟨z1, z2⟩; go_simp) ?_
  try simp only [List.getElem_toArray, List.getElem_cons_succ, List.getElem_cons_zero, Act.put, List.setIfInBounds_toArray, List.set_cons_zero, List.set_cons_succ]
  refine wpAnyY_take [] 15 (.pointer (some ⟨g2, 3, none⟩)) rfl (by kernel_rfl) (fun _ _ _ h => h) SS rfl (by rintro wz ⟨z1, z2⟩; go_simp) ?_
  try simp only [List.getElem_toArray, List.getElem_cons_succ, List.getElem_cons_zero, Act.put, List.setIfInBounds_toArray, List.set_cons_zero, List.set_cons_succ]
  refine wpAnyY_take [] 16 (.int .i64 (b.1.length : Int)) rfl (by kernel_rfl) (fun _ _ _ h => h) SS rfl (by rintro wz ⟨z1, z2⟩; have z : wz.cell? ⟨g2, 3, none⟩ = some (.int .i64 (b.1.length : Int)) := z2.cell 3 (by show 3 < 4; decide); go_simp) ?_
  try simp only [List.getElem_toArray, List.getElem_cons_succ, List.getElem_cons_zero, Act.put, List.setIfInBounds_toArray, List.set_cons_zero, List.set_cons_succ]
  refine wpAnyY_take [] 18 (.pointer (some ⟨g1, 0, none⟩)) rfl (by kernel_rfl) (fun _ _ _ h => h) SS rfl (by rintro wz ⟨z1, z2⟩; go_simp) ?_
  try simp only [List.getElem_toArray, List.getElem_cons_succ, List.getElem_cons_zero, Act.put, List.setIfInBounds_toArray, List.set_cons_zero, List.set_cons_succ]
  refine wpAnyY_take [] 19 (.pointer (some ⟨g1, 0, none⟩)) rfl (by kernel_rfl) (fun _ _ _ h => h) SS rfl (by rintro wz ⟨z1, z2⟩; go_simp) ?_
  try simp only [List.getElem_toArray, List.getElem_cons_succ, List.getElem_cons_zero, Act.put, List.setIfInBounds_toArray, List.set_cons_zero, List.set_cons_succ]
  refine wpAnyY_take [] 20 (.pointer (some ⟨g1, 0, none⟩)) rfl (by kernel_rfl) (fun _ _ _ h => h) SS rfl (by rintro wz ⟨z1, z2⟩; go_simp) ?_
  try simp only [List.getElem_toArray, List.getElem_cons_succ, List.getElem_cons_zero, Act.put, List.setIfInBounds_toArray, List.set_cons_zero, List.set_cons_succ]
  refine wpAnyY_take [] 21 (.int .i64 (hdP a : Int)) rfl (by kernel_rfl) (fun _ _ _ h => h) SS rfl (by rintro wz ⟨z1, z2⟩; have z : wz.cell? ⟨g1, 0, none⟩ = some (.int .i64 (hdP a : Int)) := z1.cell 0 (by show 0 < 4; decide); go_simp) ?_
  try simp only [List.getElem_toArray, List.getElem_cons_succ, List.getElem_cons_zero, Act.put, List.setIfInBounds_toArray, List.set_cons_zero, List.set_cons_succ]
  refine wpAnyY_take [] 22 (.pointer (some ⟨g2, 0, none⟩)) rfl (by kernel_rfl) (fun _ _ _ h => h) SS rfl (by rintro wz ⟨z1, z2⟩; go_simp) ?_
  try simp only [List.getElem_toArray, List.getElem_cons_succ, List.getElem_cons_zero, Act.put, List.setIfInBounds_toArray, List.set_cons_zero, List.set_cons_succ]
  refine wpAnyY_take [] 23 (.pointer (some ⟨g2, 0, none⟩)) rfl (by kernel_rfl) (fun _ _ _ h => h) SS rfl (by rintro wz ⟨z1, z2⟩; go_simp) ?_
  try simp only [List.getElem_toArray, List.getElem_cons_succ, List.getElem_cons_zero, Act.put, List.setIfInBounds_toArray, List.set_cons_zero, List.set_cons_succ]
  refine wpAnyY_take [] 24 (.pointer (some ⟨g2, 0, none⟩)) rfl (by kernel_rfl) (fun _ _ _ h => h) SS rfl (by rintro wz ⟨z1, z2⟩; go_simp) ?_
  try simp only [List.getElem_toArray, List.getElem_cons_succ, List.getElem_cons_zero, Act.put, List.setIfInBounds_toArray, List.set_cons_zero, List.set_cons_succ]
  refine wpAnyY_take [] 25 (.int .i64 (hdP b : Int)) rfl (by kernel_rfl) (fun _ _ _ h => h) SS rfl (by rintro wz ⟨z1, z2⟩; have z : wz.cell? ⟨g2, 0, none⟩ = some (.int .i64 (hdP b : Int)) := z2.cell 0 (by show 0 < 4; decide); go_simp) ?_
  try simp only [List.getElem_toArray, List.getElem_cons_succ, List.getElem_cons_zero, Act.put, List.setIfInBounds_toArray, List.set_cons_zero, List.set_cons_succ]
  refine wpAnyY_oneB 8 rfl (by kernel_rfl) (fun KK hKK => ?_)
  go_simp
  go_at_call 27
  refine (compare_any _ _ _).mono ?_
  rintro e wx ⟨rfl, hwx⟩
  dsimp only
  rw [hwx]
  clear hwx
  refine hKK _ _ (fun h _ => h) ?_
  try simp only [List.getElem_toArray, List.getElem_cons_succ, List.getElem_cons_zero, Act.put, List.setIfInBounds_toArray, List.set_cons_zero, List.set_cons_succ]
  refine wpAnyY_oneB 17 rfl (by kernel_rfl) (fun KK hKK => ?_)
  go_simp
  go_at_call 27
  refine (compare_any _ _ _).mono ?_
  rintro e wx ⟨rfl, hwx⟩
  dsimp only
  rw [hwx]
  clear hwx
  refine hKK _ _ (fun h _ => h) ?_
  try simp only [List.getElem_toArray, List.getElem_cons_succ, List.getElem_cons_zero, Act.put, List.setIfInBounds_toArray, List.set_cons_zero, List.set_cons_succ]
  refine wpAnyY_oneB 26 rfl (by kernel_rfl) (fun KK hKK => ?_)
  go_simp
  go_at_call 27
  refine (compare_any _ _ _).mono ?_
  rintro e wx ⟨rfl, hwx⟩
  dsimp only
  rw [hwx]
  clear hwx
  refine hKK _ _ (fun h _ => h) ?_
  try simp only [List.getElem_toArray, List.getElem_cons_succ, List.getElem_cons_zero, Act.put, List.setIfInBounds_toArray, List.set_cons_zero, List.set_cons_succ]
  refine wpAnyY_oneB 27 rfl (by kernel_rfl) (fun KK hKK => ?_)
  go_simp
  have Ge := World.grownBy_alloc wd (.cells #[.int .i64 (cN b.2 a.2), .int .i64 (cN (a.1.length : Int) (b.1.length : Int)), .int .i64 (cN (hdP a : Int) (hdP b : Int))] 3) none
  have be := BxS.new wd 3 #[.int .i64 (btX a b 0), .int .i64 (btX a b 1), .int .i64 (btX a b 2)]
  have hce : ∀ j, j < 3 → (wd.alloc (.cells #[.int .i64 (cN b.2 a.2), .int .i64 (cN (a.1.length : Int) (b.1.length : Int)), .int .i64 (cN (hdP a : Int) (hdP b : Int))] 3)).cell? ⟨wd.heap.size, j, none⟩ = some (.int .i64 (btX a b j)) := fun j hj => by
    have : j = 0 ∨ j = 1 ∨ j = 2 := by omega
    rcases this with rfl | rfl | rfl
    · exact be.cell 0 (by show 0 < 3; decide)
    · exact be.cell 1 (by show 1 < 3; decide)
    · exact be.cell 2 (by show 2 < 3; decide)
  generalize wd.alloc (.cells #[.int .i64 (cN b.2 a.2), .int .i64 (cN (a.1.length : Int) (b.1.length : Int)), .int .i64 (cN (hdP a : Int) (hdP b : Int))] 3) = we at *
  refine hKK _ _ (fun h _ => ⟨h.1.keep Ge (by simp), h.2.keep Ge (by simp)⟩) ?_
  try simp only [List.getElem_toArray, List.getElem_cons_succ, List.getElem_cons_zero, Act.put, List.setIfInBounds_toArray, List.set_cons_zero, List.set_cons_succ]
  refine wpAnyY_oneB 28 rfl (by kernel_rfl) (fun KK hKK => ?_)
  go_simp
  go_at_call 26
  refine (or_any _ (btX a b) _ hce).mono ?_
  rintro e wx ⟨rfl, hwx⟩
  dsimp only
  rw [hwx]
  clear hwx
  refine hKK _ _ (fun h _ => h) ?_
  try simp only [List.getElem_toArray, List.getElem_cons_succ, List.getElem_cons_zero, Act.put, List.setIfInBounds_toArray, List.set_cons_zero, List.set_cons_succ]
  refine wpAnyY_takeF 29 (.bool (decide (orN (btX a b) < 0))) rfl (by kernel_rfl) (fun _ _ _ h => h) rfl (by intro wz; go_simp; try rfl) ?_
  try simp only [List.getElem_toArray, List.getElem_cons_succ, List.getElem_cons_zero, Act.put, List.setIfInBounds_toArray, List.set_cons_zero, List.set_cons_succ]
  refine wpAnyY_oneB 30 rfl (by kernel_rfl) (fun KK hKK => ?_)
  go_simp
  refine hKK _ _ (fun h _ => h) ?_
  try simp only [List.getElem_toArray, List.getElem_cons_succ, List.getElem_cons_zero, Act.put, List.setIfInBounds_toArray, List.set_cons_zero, List.set_cons_succ]
  refine wpAnyY_doneB (by kernel_rfl) ?_ _
  refine HK1.out _ _ ?_
  clear HK1
  go_wp2
  first | go_ret | skip
  exact ⟨rfl, grown_trans Gd Ge⟩
set_option maxHeartbeats 16000000 in
theorem may_any (w : World) (g2 g8 g3 : Nat) (la : Option Addr) (ln lc i : Nat) (F : Nat → Pa) (g : Int) (p : Pa) (b2 : BxS w g2 22 #[.slice la ln lc]) (hP : RdPa w la ln lc F) (b8 : BxS w g8 3 #[.int .i64 (i : Int)]) (b3 : BxS w g3 3 #[.int .i64 g]) (hi : i < ln) (hok : (F i).ok) (hg : 0 ≤ g ∧ g ≤ 1000) :
    Calls Try.prog 22 #[.agg p.arr, .pointer (some ⟨g2, 0, none⟩), .pointer (some ⟨g8, 0, none⟩), .pointer (some ⟨g3, 0, none⟩)] w fun e w' => e = .returned (.bool (mf (F i) p g)) ∧ w.grownBy w' none := by
  obtain ⟨lb, lf, rfl, hlb, hlr⟩ := hP.at' (by omega)
  have hri := hlr i hi
  have hil : (i : Int) < (ln : Int) := by omega
  have hmx := hP.max
  have hle := hP.le
  unfold maxLen at hmx
  clear hlr hP
  have b4 := BxS.new w 29 p.arr
  have G4 := World.grownBy_alloc w (.cells p.arr 29) none
  have hr4 := range_keep hri hlb G4
  have b24 := b2.keep G4 (by simp)
  have b84 := b8.keep G4 (by simp)
  have b34 := b3.keep G4 (by simp)
  go_enter Try.func22, Try.ntmps22
  refine wp_seq_k fun K0 hK0 => ?_
  have HK0 : Hid _ := hK0
  clear hK0
  go_wp2
  refine HK0.out _ _ ?_
  clear HK0
  generalize w.alloc (.cells p.arr 29) = w1 at *
  obtain ⟨g4, hg4⟩ : ∃ g, w.heap.size = g := ⟨_, rfl⟩
  rw [hg4] at b4 ⊢
  clear hg4
  have hlb1 := Nat.lt_of_lt_of_le hlb G4.size
  refine wp_seq_k fun K1 hK1 => ?_
  have HK1 : Hid _ := hK1
  clear hK1
  have Gd := grown_drew w1 none
  have SS : BxS w1.drew g2 22 #[.slice (some ⟨lb, lf, none⟩) ln lc] ∧ BxS w1.drew g8 3 #[.int .i64 (i : Int)] ∧ BxS w1.drew g3 3 #[.int .i64 g] ∧ BxS w1.drew g4 29 p.arr ∧ w1.drew.rangeAt lb (lf + i * 4) (F i).cells := ⟨b24.keep Gd (by simp), b84.keep Gd (by simp), b34.keep Gd (by simp), b4.keep Gd (by simp), range_keep hr4 hlb1 Gd⟩
  refine wp_regionM (fun wz => BxS wz g2 22 #[.slice (some ⟨lb, lf, none⟩) ln lc] ∧ BxS wz g8 3 #[.int .i64 (i : Int)] ∧ BxS wz g3 3 #[.int .i64 g] ∧ BxS wz g4 29 p.arr ∧ wz.rangeAt lb (lf + i * 4) (F i).cells) [] #[false, false, false, false, false, false, false, false] rfl (by kernel_rfl) ?_
  generalize w1.drew = wd at *
  refine wpAnyY_take [] 0 (.slice (some ⟨lb, lf, none⟩) ln lc) rfl (by kernel_rfl) (fun _ _ _ h => h) SS rfl (by rintro wz ⟨z1, z2, z3, z4, z5⟩; have z := z1.cell1; go_simp) ?_
  try simp only [List.getElem_toArray, List.getElem_cons_succ, List.getElem_cons_zero, Act.put, List.setIfInBounds_toArray, List.set_cons_zero, List.set_cons_succ]
  refine wpAnyY_take [] 1 (.int .i64 (i : Int)) rfl (by kernel_rfl) (fun _ _ _ h => h) SS rfl (by rintro wz ⟨z1, z2, z3, z4, z5⟩; have z := z2.cell1; go_simp) ?_
  try simp only [List.getElem_toArray, List.getElem_cons_succ, List.getElem_cons_zero, Act.put, List.setIfInBounds_toArray, List.set_cons_zero, List.set_cons_succ]
  refine wpAnyY_take [] 2 (.pointer (some ⟨lb, lf + i * 4, none⟩)) rfl (by kernel_rfl) (fun _ _ _ h => h) SS rfl (by rintro wz ⟨z1, z2, z3, z4, z5⟩; go_simp) ?_
  try simp only [List.getElem_toArray, List.getElem_cons_succ, List.getElem_cons_zero, Act.put, List.setIfInBounds_toArray, List.set_cons_zero, List.set_cons_succ]
  refine wpAnyY_take [] 3 (.agg #[.int .i64 (F i).st, .int .i64 (F i).fr, .int .i64 (F i).to', .int .i64 (F i).wo]) rfl (by kernel_rfl) (fun _ _ _ h => h) SS rfl (by rintro wz ⟨z1, z2, z3, z4, z5⟩; exact ldMR rfl rfl z5 Try.underlying29 rfl Try.info_pa) ?_
  try simp only [List.getElem_toArray, List.getElem_cons_succ, List.getElem_cons_zero, Act.put, List.setIfInBounds_toArray, List.set_cons_zero, List.set_cons_succ]
  refine wpAnyY_take [] 4 (.agg #[.int .i64 p.st, .int .i64 p.fr, .int .i64 p.to', .int .i64 p.wo]) rfl (by kernel_rfl) (fun _ _ _ h => h) SS rfl (by rintro wz ⟨z1, z2, z3, z4, z5⟩; exact ldMR rfl rfl (z4.rangeR 0 p.cells rfl) Try.underlying29 rfl Try.info_pa) ?_
  try simp only [List.getElem_toArray, List.getElem_cons_succ, List.getElem_cons_zero, Act.put, List.setIfInBounds_toArray, List.set_cons_zero, List.set_cons_succ]
  refine wpAnyY_take [] 5 (.int .i64 g) rfl (by kernel_rfl) (fun _ _ _ h => h) SS rfl (by rintro wz ⟨z1, z2, z3, z4, z5⟩; have z := z3.cell1; go_simp) ?_
  try simp only [List.getElem_toArray, List.getElem_cons_succ, List.getElem_cons_zero, Act.put, List.setIfInBounds_toArray, List.set_cons_zero, List.set_cons_succ]
  refine wpAnyY_oneB 6 rfl (by kernel_rfl) (fun KK hKK => ?_)
  go_simp
  go_at_call 23
  refine (mayFollow_any (F i) p g wd ⟨hok.to'.2, by have h1 := hok.to'.1; have h2 := hok.fr.1; omega⟩ hg).mono ?_
  rintro e w6 ⟨rfl, y6⟩
  dsimp only
  refine hKK _ _ (fun h _ => ⟨h.1.keep y6 (by simp), h.2.1.keep y6 (by simp), h.2.2.1.keep y6 (by simp), h.2.2.2.1.keep y6 (by simp), range_keep h.2.2.2.2 (Nat.lt_of_lt_of_le hlb1 Gd.size) y6⟩) ?_
  try simp only [List.getElem_toArray, List.getElem_cons_succ, List.getElem_cons_zero, Act.put, List.setIfInBounds_toArray, List.set_cons_zero, List.set_cons_succ]
  refine wpAnyY_oneB 7 rfl (by kernel_rfl) (fun KK hKK => ?_)
  go_simp
  refine hKK _ _ (fun h _ => h) ?_
  try simp only [List.getElem_toArray, List.getElem_cons_succ, List.getElem_cons_zero, Act.put, List.setIfInBounds_toArray, List.set_cons_zero, List.set_cons_succ]
  refine wpAnyY_doneB (by kernel_rfl) ?_ _
  refine HK1.out _ _ ?_
  clear HK1
  go_wp2
  first | go_ret | skip
  exact ⟨rfl, grown_trans G4 (grown_trans Gd y6)⟩
theorem mayT_any (w : World) (p : Pa) : Calls Try.prog 24 #[.agg p.arr] w fun e w' => e = .returned (.bool true) ∧ w.grownBy w' none := by
  have G4 := World.grownBy_alloc w (.cells p.arr 29) none
  go_enter Try.func24, Try.ntmps24
  go_wp2
  first | go_ret | skip
  exact ⟨rfl, G4⟩
end

section
open Go.Shelf
def sortI_ren : Go.Shelf.Ren := ⟨fun | 6 => 28 | 15 => 32 | 14 => 31 | 28 => 41 | 29 => 42 | 20 => 33 | 21 => 34 | 22 => 35 | 23 => 36 | 24 => 37 | 25 => 38 | 26 => 39 | 27 => 40 | 46 => 43 | 47 => 44 | 48 => 45 | 49 => 46 | 50 => 47 | 57 => 48 | n => n, fun | 22 => 23 | 24 => 3 | 25 => 33 | 3 => 3 | 39 => 63 | 0 => 0 | 53 => 73 | 55 => 75 | 4 => 4 | 46 => 66 | 45 => 65 | 50 => 70 | 5 => 5 | 9 => 9 | 66 => 76 | 70 => 80 | 76 => 82 | 77 => 83 | n => n, fun | n => n⟩
theorem sortI : Go.Proofs.SlLaysF.n6 Try.prog sortI_ren := {
  mixed := by kernel_rfl
  f6 := ⟨Try.f28.name, by decide, Try.func28.trans (congrArg some (by kernel_rfl))⟩
  f14 := ⟨Try.f31.name, by decide, Try.func31.trans (congrArg some (by kernel_rfl))⟩
  f15 := Try.func32.trans (congrArg some (by kernel_rfl))
  f20 := ⟨Try.f33.name, by decide, Try.func33.trans (congrArg some (by kernel_rfl))⟩
  f21 := ⟨Try.f34.name, by decide, Try.func34.trans (congrArg some (by kernel_rfl))⟩
  f22 := ⟨Try.f35.name, by decide, Try.func35.trans (congrArg some (by kernel_rfl))⟩
  f23 := ⟨Try.f36.name, by decide, Try.func36.trans (congrArg some (by kernel_rfl))⟩
  f24 := ⟨Try.f37.name, by decide, Try.func37.trans (congrArg some (by kernel_rfl))⟩
  f25 := ⟨Try.f38.name, by decide, Try.func38.trans (congrArg some (by kernel_rfl))⟩
  f26 := ⟨Try.f39.name, by decide, Try.func39.trans (congrArg some (by kernel_rfl))⟩
  f27 := ⟨Try.f40.name, by decide, Try.func40.trans (congrArg some (by kernel_rfl))⟩
  f28 := Try.func41.trans (congrArg some (by kernel_rfl))
  f29 := Try.func42.trans (congrArg some (by kernel_rfl))
  f46 := ⟨Try.f43.name, by decide, Try.func43.trans (congrArg some (by kernel_rfl))⟩
  f47 := Try.func44.trans (congrArg some (by kernel_rfl))
  f48 := Try.func45.trans (congrArg some (by kernel_rfl))
  f49 := ⟨Try.f46.name, by decide, Try.func46.trans (congrArg some (by kernel_rfl))⟩
  f50 := ⟨Try.f47.name, by decide, Try.func47.trans (congrArg some (by kernel_rfl))⟩
  f57 := ⟨Try.f48.name, by decide, Try.func48.trans (congrArg some (by kernel_rfl))⟩
  t0 := Try.underlying0
  a0 := Try.isAgg0
  z0 := Try.sizeOf0
  v0 := Try.zeroValue0
  t3 := Try.underlying3
  a3 := Try.isAgg3
  z3 := Try.sizeOf3
  v3 := Try.zeroValue3
  t4 := Try.underlying4
  a4 := Try.isAgg4
  z4 := Try.sizeOf4
  v4 := Try.zeroValue4
  t5 := Try.underlying5
  a5 := Try.isAgg5
  z5 := Try.sizeOf5
  v5 := Try.zeroValue5
  t9 := Try.underlying9
  a9 := Try.isAgg9
  z9 := Try.sizeOf9
  v9 := Try.zeroValue9
  t22 := Try.underlying23
  a22 := Try.isAgg23
  z22 := Try.sizeOf23
  v22 := Try.zeroValue23
  a24 := Try.isAgg3
  z24 := Try.sizeOf3
  t25 := Try.underlying33
  a25 := Try.isAgg33
  z25 := Try.sizeOf33
  v25 := Try.zeroValue33
  t39 := Try.underlying63
  a39 := Try.isAgg63
  z39 := Try.sizeOf63
  v39 := Try.zeroValue63
  t45 := Try.underlying65
  a45 := Try.isAgg65
  z45 := Try.sizeOf65
  v45 := Try.zeroValue65
  t46 := Try.underlying66
  a46 := Try.isAgg66
  z46 := Try.sizeOf66
  v46 := Try.zeroValue66
  t50 := Try.underlying70
  a50 := Try.isAgg70
  z50 := Try.sizeOf70
  v50 := Try.zeroValue70
  t53 := Try.underlying73
  a53 := Try.isAgg73
  z53 := Try.sizeOf73
  v53 := Try.zeroValue73
  t55 := Try.underlying75
  a55 := Try.isAgg75
  z55 := Try.sizeOf75
  v55 := Try.zeroValue75
  t66 := Try.underlying76
  a66 := Try.isAgg76
  z66 := Try.sizeOf76
  v66 := Try.zeroValue76
  t70 := Try.underlying80
  a70 := Try.isAgg80
  z70 := Try.sizeOf80
  v70 := Try.zeroValue80
  t76 := Try.underlying82
  a76 := Try.isAgg82
  z76 := Try.sizeOf82
  v76 := Try.zeroValue82
  t77 := Try.underlying83
  a77 := Try.isAgg83
  z77 := Try.sizeOf83
  v77 := Try.zeroValue83 }
end

section
set_option maxHeartbeats 16000000 in
theorem cmpF_any (w : World) (g1 lb lf ln lc x y : Nat) (F : Nat → Pa) (b1 : BxS w g1 22 #[.slice (some ⟨lb, lf, none⟩) ln lc]) (hx : x < ln) (hy : y < ln) (rx : w.rangeAt lb (lf + x * 4) (F x).cells) (ry : w.rangeAt lb (lf + y * 4) (F y).cells) (hl : ln ≤ lc ∧ lc ≤ 9223372036854775807) :
    Calls Try.prog 29 #[.int .i64 (x : Int), .int .i64 (y : Int), .pointer (some ⟨g1, 0, none⟩)] w fun e w' => e = .returned (.int .i64 (cN (F y).fr (F x).fr)) ∧ w' = w.drew := by
  have hxi : (x : Int) < (ln : Int) := by omega
  have hyi : (y : Int) < (ln : Int) := by omega
  go_enter Try.func29, Try.ntmps29
  refine wp_seq_k fun K0 hK0 => ?_
  have HK0 : Hid _ := hK0
  clear hK0
  go_wp2
  refine HK0.out _ _ ?_
  clear HK0
  refine wp_seq_k fun K1 hK1 => ?_
  have HK1 : Hid _ := hK1
  clear hK1
  have SS : BxS w.drew g1 22 #[.slice (some ⟨lb, lf, none⟩) ln lc] ∧ w.drew.rangeAt lb (lf + x * 4) (F x).cells ∧ w.drew.rangeAt lb (lf + y * 4) (F y).cells := ⟨b1, rx, ry⟩
  refine wp_regionM (fun wz => BxS wz g1 22 #[.slice (some ⟨lb, lf, none⟩) ln lc] ∧ wz.rangeAt lb (lf + x * 4) (F x).cells ∧ wz.rangeAt lb (lf + y * 4) (F y).cells) [] #[false, false, false, false, false, false, false, false, false, false, false, false] rfl (by kernel_rfl) ?_
  generalize hwd : w.drew = wd at *
  refine wpAnyY_take [] 0 (.slice (some ⟨lb, lf, none⟩) ln lc) rfl (by kernel_rfl) (fun _ _ _ h => h) SS rfl (by rintro wz ⟨z1, z2, z3⟩; have z := z1.cell1; go_simp) ?_
  try simp only [List.getElem_toArray, List.getElem_cons_succ, List.getElem_cons_zero, Act.put, List.setIfInBounds_toArray, List.set_cons_zero, List.set_cons_succ]
  refine wpAnyY_takeF 1 (.int .i64 (y : Int)) rfl (by kernel_rfl) (fun _ _ _ h => h) rfl (by intro wz; go_simp; try rfl) ?_
  try simp only [List.getElem_toArray, List.getElem_cons_succ, List.getElem_cons_zero, Act.put, List.setIfInBounds_toArray, List.set_cons_zero, List.set_cons_succ]
  refine wpAnyY_takeF 2 (.pointer (some ⟨lb, lf + y * 4, none⟩)) rfl (by kernel_rfl) (fun _ _ _ h => h) rfl (by intro wz; go_simp; try rfl) ?_
  try simp only [List.getElem_toArray, List.getElem_cons_succ, List.getElem_cons_zero, Act.put, List.setIfInBounds_toArray, List.set_cons_zero, List.set_cons_succ]
  refine wpAnyY_takeF 3 (.pointer (some ⟨lb, lf + y * 4 + 1, none⟩)) rfl (by kernel_rfl) (fun _ _ _ h => h) rfl (by intro wz; go_simp; try rfl) ?_
  try simp only [List.getElem_toArray, List.getElem_cons_succ, List.getElem_cons_zero, Act.put, List.setIfInBounds_toArray, List.set_cons_zero, List.set_cons_succ]
  refine wpAnyY_take [] 4 (.int .i64 (F y).fr) rfl (by kernel_rfl) (fun _ _ _ h => h) SS rfl (by rintro wz ⟨z1, z2, z3⟩; have z : wz.cell? ⟨lb, lf + y * 4 + 1, none⟩ = some (.int .i64 (F y).fr) := z3 1 _ rfl; go_simp) ?_
  try simp only [List.getElem_toArray, List.getElem_cons_succ, List.getElem_cons_zero, Act.put, List.setIfInBounds_toArray, List.set_cons_zero, List.set_cons_succ]
  refine wpAnyY_take [] 5 (.slice (some ⟨lb, lf, none⟩) ln lc) rfl (by kernel_rfl) (fun _ _ _ h => h) SS rfl (by rintro wz ⟨z1, z2, z3⟩; have z := z1.cell1; go_simp) ?_
  try simp only [List.getElem_toArray, List.getElem_cons_succ, List.getElem_cons_zero, Act.put, List.setIfInBounds_toArray, List.set_cons_zero, List.set_cons_succ]
  refine wpAnyY_takeF 6 (.int .i64 (x : Int)) rfl (by kernel_rfl) (fun _ _ _ h => h) rfl (by intro wz; go_simp; try rfl) ?_
  try simp only [List.getElem_toArray, List.getElem_cons_succ, List.getElem_cons_zero, Act.put, List.setIfInBounds_toArray, List.set_cons_zero, List.set_cons_succ]
  refine wpAnyY_takeF 7 (.pointer (some ⟨lb, lf + x * 4, none⟩)) rfl (by kernel_rfl) (fun _ _ _ h => h) rfl (by intro wz; go_simp; try rfl) ?_
  try simp only [List.getElem_toArray, List.getElem_cons_succ, List.getElem_cons_zero, Act.put, List.setIfInBounds_toArray, List.set_cons_zero, List.set_cons_succ]
  refine wpAnyY_takeF 8 (.pointer (some ⟨lb, lf + x * 4 + 1, none⟩)) rfl (by kernel_rfl) (fun _ _ _ h => h) rfl (by intro wz; go_simp; try rfl) ?_
  try simp only [List.getElem_toArray, List.getElem_cons_succ, List.getElem_cons_zero, Act.put, List.setIfInBounds_toArray, List.set_cons_zero, List.set_cons_succ]
  refine wpAnyY_take [] 9 (.int .i64 (F x).fr) rfl (by kernel_rfl) (fun _ _ _ h => h) SS rfl (by rintro wz ⟨z1, z2, z3⟩; have z : wz.cell? ⟨lb, lf + x * 4 + 1, none⟩ = some (.int .i64 (F x).fr) := z2 1 _ rfl; go_simp) ?_
  try simp only [List.getElem_toArray, List.getElem_cons_succ, List.getElem_cons_zero, Act.put, List.setIfInBounds_toArray, List.set_cons_zero, List.set_cons_succ]
  refine wpAnyY_oneB 10 rfl (by kernel_rfl) (fun KK hKK => ?_)
  go_simp
  go_at_call 27
  refine (compare_any _ _ _).mono ?_
  rintro e wx ⟨rfl, hwx⟩
  dsimp only
  rw [hwx]
  clear hwx
  refine hKK _ _ (fun h _ => h) ?_
  try simp only [List.getElem_toArray, List.getElem_cons_succ, List.getElem_cons_zero, Act.put, List.setIfInBounds_toArray, List.set_cons_zero, List.set_cons_succ]
  refine wpAnyY_oneB 11 rfl (by kernel_rfl) (fun KK hKK => ?_)
  go_simp
  refine hKK _ _ (fun h _ => h) ?_
  try simp only [List.getElem_toArray, List.getElem_cons_succ, List.getElem_cons_zero, Act.put, List.setIfInBounds_toArray, List.set_cons_zero, List.set_cons_succ]
  refine wpAnyY_doneB (by kernel_rfl) ?_ _
  refine HK1.out _ _ ?_
  clear HK1
  go_wp2
  first | go_ret | skip
  exact ⟨rfl, rfl⟩
open Go.Sort Go.Shelf in
theorem grown_sort {α : Type} [Inhabited α] (enc : α → Value) (w : World) (g n : Nat) (d : Array α) (os : Array Obj) : w.grownBy (sortWorld enc w g 0 n d os) (some g) := by
  refine ⟨rfl, rfl, rfl, by simp [sortWorld, grow, putRow, mapBlock, Sort.ahead], fun k hk hne => ?_⟩
  have h1 : g ≠ k := fun e => hne (by rw [e])
  have h2 : k < (putRow enc (Sort.ahead w n) g 0 d).heap.size := by simpa [putRow, mapBlock, Sort.ahead] using hk
  have h3 : (sortWorld enc w g 0 n d os).heap[k]? = (putRow enc (Sort.ahead w n) g 0 d).heap[k]? := by
    show ((putRow enc (Sort.ahead w n) g 0 d).heap ++ os)[k]? = _
    rw [Array.getElem?_append_left h2]
  rw [h3]
  simp [putRow, mapBlock, Sort.ahead, Array.getElem?_modify, h1]
theorem ext_all {α : Type} (d : Array α) (n : Nat) (h : d.size = n) : (d.extract 0 n).toList = d.toList := by
  subst h
  simp
theorem cN_neg (x y : Int) : (cN x y < 0) ↔ x < y := by
  unfold cN
  by_cases h1 : x < y
  · rw [if_pos h1]; simp [h1]
  · rw [if_neg h1]
    by_cases h2 : y < x
    · rw [if_pos h2]; simp [h1]
    · rw [if_neg h2]; simp [h1]
theorem range_ne {w w' : World} {b o g : Nat} {cs : List Value} (h : w.rangeAt b o cs) (hb : b < w.heap.size) (hg : w.grownBy w' (some g)) (hne : b ≠ g) : w'.rangeAt b o cs := by
  intro j v hv
  have := h j v hv
  unfold World.cell? at this ⊢
  rw [hg.block b hb (by simp [hne])]
  exact this
open Go.Sort Go.Shelf in
set_option maxHeartbeats 4000000 in
/-- the sort of places, the latest first -/
theorem sortP_any (w : World) (g1 lb lf ln lc go : Nat) (F : Nat → Pa) (b1 : BxS w g1 22 #[.slice (some ⟨lb, lf, none⟩) ln lc]) (hl : ln ≤ lc ∧ lc ≤ 9223372036854775807) (hn : 0 < ln) (hr : ∀ i, i < ln → w.rangeAt lb (lf + i * 4) (F i).cells) (hlb : lb < w.heap.size) (hne : lb ≠ go) (hgo : g1 ≠ go) (hgs : go < w.heap.size) (hc : ∀ j, j < ln → w.cell? ⟨go, j, none⟩ = some (.int .i64 (j : Int)) ∧ w.frozen? ⟨go, j, none⟩ = false) (h1000 : ln ≤ 1000) :
    Calls Try.prog 28 #[.slice (some ⟨go, 0, none⟩) ln ln, .func (.func 29) #[] #[.pointer (some ⟨g1, 0, none⟩)]] w fun e w' => e = .returned (.tuple #[]) ∧ w.grownBy w' (some go) ∧ ∃ O : List Nat, O.length = ln ∧ (∀ j p : Nat, O[j]? = some p → w'.cell? ⟨go, j, none⟩ = some (.int .i64 (p : Int))) ∧ (∀ p, p ∈ O ↔ p < ln) ∧ O.Pairwise (fun a b => (F b).fr ≤ (F a).fr) := by
  have hI : Inhabited (Fin ln) := ⟨⟨0, hn⟩⟩
  have eg : ∀ args w, (callFunc 29 args).run Try.prog w = .ok (.enter 29 args) w := enters_of Try.func29 (by kernel_rfl) rfl
  have hlt : ∀ x y : Fin ln, ltOf (fun x y : Fin ln => cN (F y.val).fr (F x.val).fr) x y = decide ((F y.val).fr < (F x.val).fr) := fun x y => by
    unfold ltOf
    exact decide_eq_decide.2 (cN_neg _ _)
  have hO : SWO (ltOf (fun x y : Fin ln => cN (F y.val).fr (F x.val).fr)) := ⟨fun x => by rw [hlt]; simp, fun x y z h1 h2 => by rw [hlt] at *; simp at *; omega, fun x y z h1 h2 => by rw [hlt] at *; simp at *; omega⟩
  have hsz : (Array.ofFn (n := ln) id).size = ln := by simp
  have hat : ∀ j (hj : j < ln), (Array.ofFn (n := ln) id)[j]! = ⟨j, hj⟩ := fun j hj => by
    rw [getElem!_pos _ j (by simpa using hj)]
    simp
  have hH : Holds (fun x : Fin ln => Value.int .i64 (x.val : Int)) w go 0 (Array.ofFn id) := fun j hj => by
    have hj : j < ln := by simpa using hj
    rw [Nat.zero_add, hat j hj]
    exact hc j hj
  have hcmp : CmpReads Try.prog 29 #[.pointer (some ⟨g1, 0, none⟩)] (fun x : Fin ln => Value.int .i64 (x.val : Int)) (fun x y : Fin ln => cN (F y.val).fr (F x.val).fr) go 0 (Array.ofFn (n := ln) id).size w := fun m os dk hs x y => by
    have G := grown_sort (fun x : Fin ln => Value.int .i64 (x.val : Int)) w go m dk os
    refine (cmpF_any (sortWorld (fun x : Fin ln => Value.int .i64 (x.val : Int)) w go 0 m dk os) g1 lb lf ln lc x.val y.val F (b1.keep G (by simp [hgo])) x.isLt y.isLt (range_ne (hr x.val x.isLt) hlb G hne) (range_ne (hr y.val y.isLt) hlb G hne) hl).mono ?_
    rintro e w' ⟨e1, e2⟩
    exact ⟨e1, 1, e2⟩
  have hcon := Any.slices_SortFunc sortI (fun x : Fin ln => Value.int .i64 (x.val : Int)) (fun _ => rfl) (fun x y : Fin ln => cN (F y.val).fr (F x.val).fr) hO 29 #[.pointer (some ⟨g1, 0, none⟩)] go 0 ln (Array.ofFn id) w eg hcmp.lays hH hgs (by rw [hsz]; omega)
  change Calls Try.prog 28 _ _ _ at hcon
  rw [hsz] at hcon
  refine hcon.mono ?_
  rintro e w' ⟨e1, d', n, os, hp, hs, rfl⟩
  have hd : d'.size = ln := by rw [hp.1, hsz]
  have hHd := holds_sortWorld (fun x : Fin ln => Value.int .i64 (x.val : Int)) w go 0 n (Array.ofFn id) d' os hgs hH hp.1
  refine ⟨e1, grown_sort _ w go n d' os, d'.toList.map Fin.val, by simp [hd], fun j p hj => ?_, fun p => ?_, ?_⟩
  · rw [List.getElem?_map] at hj
    obtain ⟨q, hq, rfl⟩ := Option.map_eq_some_iff.1 hj
    have hjs : j < d'.size := by
      have := (List.getElem?_eq_some_iff.1 hq).1
      simpa using this
    have h9 := (hHd j hjs).1
    rw [Nat.zero_add, getElem!_pos d' j hjs] at h9
    rw [h9]
    have : d'[j] = q := by
      have h8 := (List.getElem?_eq_some_iff.1 hq).2
      simpa using h8
    rw [this]
  · have hpm := hp.2.2
    rw [ext_all d' ln hd, ext_all _ ln hsz] at hpm
    rw [List.mem_map]
    constructor
    · rintro ⟨q, _, rfl⟩; exact q.isLt
    · intro hpl
      exact ⟨⟨p, hpl⟩, hpm.mem_iff.2 (by simp), rfl⟩
  · rw [List.pairwise_map, List.pairwise_iff_getElem]
    intro i j hi hj hij
    have hi' : i < d'.size := by simpa using hi
    have hj' : j < d'.size := by simpa using hj
    have h9 := hs i j (Nat.zero_le _) hij (by omega)
    rw [hlt, getElem!_pos d' i hi', getElem!_pos d' j hj'] at h9
    have h9 := of_decide_eq_false h9
    simp only [Array.getElem_toList]
    omega
end
end Go.Proofs.Ytpcejajijaphbaa
