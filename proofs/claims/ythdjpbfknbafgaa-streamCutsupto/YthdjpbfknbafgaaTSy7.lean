import Derived.Test.YthdjpbfknbafgaaTSy6
namespace Go.Proofs.Ythdjpbfknbafgaa
open Go.RowKit Go.Shelf
set_option maxRecDepth 100000
set_option linter.unusedVariables false
set_option linter.unusedSimpArgs false

def tuD (t : Bool) (D : List Nat) : List Nat := if t then tab D.length (fun i => 255 - nth D i) else D
theorem tuD_isB (t : Bool) {D : List Nat} (h : IsB D) : IsB (tuD t D) := by
  cases t
  · exact h
  · exact tab_isB _ _ (fun i => by omega)
theorem tuD_len (t : Bool) (D : List Nat) : (tuD t D).length = D.length := by
  cases t
  · rfl
  · exact tab_len _ _
theorem not8 : ∀ v : Nat, v < 256 → bits .xor .u8 (if IntKind.u8.signed = true then -1 else IntKind.u8.max) (v : Int) = ((255 - v : Nat) : Int) := by decide +kernel
theorem tab_self (D : List Nat) : D = tab D.length (fun i => nth D i) := list_ext (by rw [tab_len]) (fun i hi => by rw [tab_nth _ _ _ hi])
theorem four_set (w : World) (b : Nat) (x y z u v0 v1 v2 v3 : Value) (t : TypeId) (h : w.heap[b]? = some (.cells #[x, y, z, u] t)) :
    ((((w.setCell ⟨b, 0, none⟩ v0).setCell ⟨b, 1, none⟩ v1).setCell ⟨b, 2, none⟩ v2).setCell ⟨b, 3, none⟩ v3).heap[b]? = some (.cells #[v0, v1, v2, v3] t) := by
  have h1 := heap_setCell_same w b 0 _ _ v0 h
  have h2 := heap_setCell_same _ b 1 _ _ v1 h1
  have h3 := heap_setCell_same _ b 2 _ _ v2 h2
  have h4 := heap_setCell_same _ b 3 _ _ v3 h3
  exact h4
theorem four_grown (w : World) (b : Nat) (v0 v1 v2 v3 : Value) : w.grownBy ((((w.setCell ⟨b, 0, none⟩ v0).setCell ⟨b, 1, none⟩ v1).setCell ⟨b, 2, none⟩ v2).setCell ⟨b, 3, none⟩ v3) (some b) :=
  grown_trans (grown_trans (grown_trans (grown_set _ _ _ _) (grown_set _ _ _ _)) (grown_set _ _ _ _)) (grown_set _ _ _ _)
theorem four_cell (w : World) (b g i : Nat) (v0 v1 v2 v3 : Value) (hne : ¬ g = b) (hg : g < w.heap.size) : ((((w.setCell ⟨b, 0, none⟩ v0).setCell ⟨b, 1, none⟩ v1).setCell ⟨b, 2, none⟩ v2).setCell ⟨b, 3, none⟩ v3).cell? ⟨g, i, none⟩ = w.cell? ⟨g, i, none⟩ :=
  World.cell?_of_block ((four_grown w b v0 v1 v2 v3).block g hg (fun e => hne (Option.some.inj e)))
def FrA (p : Nat) (tu : Bool) (mi : Nat) (a : Option Addr) (L : Nat) : Value := .agg #[.int .i64 p, .bool tu, .int .i64 mi, .slice a L L]
set_option maxHeartbeats 4000000 in
theorem frame0_any (g gd L F H M k : Nat) (lk : Bool) (tk la p : Nat) (mi : Nat) (D : List Nat) (w : World) (h : SyB w g L F H M k lk tk la p false mi (.slice (some ⟨gd, 0, none⟩) L L)) (hrow : Ans w 0 (some ⟨gd, 0, none⟩) L L D) (hne : gd ≠ g) (hL : L ≤ 2048) :
    Calls Try.prog 41 #[.pointer (some ⟨g, 0, none⟩)] w fun e w' => ∃ a', e = .returned (FrA p false mi a' L) ∧ SyB w' g L F H M k lk tk la p false mi (.slice (some ⟨gd, 0, none⟩) L L) ∧ Ans w' w.heap.size a' L L (scrL D) ∧ w.grownBy w' none := by
  have gA := World.grownBy_alloc w (.cells #[.int .i64 0, .bool false, .int .i64 0, .slice none 0 0] 42) none
  have hA := h.keep gA
  have hnew := heap_alloc_new w (.cells #[.int .i64 0, .bool false, .int .i64 0, .slice none 0 0] 42)
  have rA := hrow.keep gA
  have hgl := h.lt
  go_enter Try.func41, Try.ntmps41
  generalize hwa : w.alloc (.cells #[.int .i64 0, .bool false, .int .i64 0, .slice none 0 0] 42) = wa at *
  have c11 := hA.c 11 (.slice (some ⟨gd, 0, none⟩) L L) rfl
  have c9 := hA.c 9 (.bool false) rfl
  have c8 := hA.c 8 (.int .i64 p) rfl
  have c10 := hA.c 10 (.int .i64 mi) rfl
  have hSc := fun w' (hg : wa.grownBy w' none) => scramble_any (some ⟨gd, 0, none⟩) L L D w' (rA.rd.keep hg) (by omega)
  have hwn : wa.heap.size = w.heap.size + 1 := by rw [← hwa]; simp
  go_wp2
  go_region_held3 (fun w' => w'.cell? ⟨g, 8, none⟩ = some (.int .i64 p) ∧ w'.cell? ⟨g, 9, none⟩ = some (.bool false) ∧ w'.cell? ⟨g, 10, none⟩ = some (.int .i64 mi)) (first | go_keep | (refine ⟨?_, ?_, ?_⟩ <;> rw [four_cell _ _ _ _ _ _ _ _ hng hg2] <;> assumption)) (first
    | (go_at_call 31; refine (hSc _ (by repeat (first | exact World.grownBy.refl _ _ | refine grown_trans ?_ (grown_drew _ _) | refine grown_trans ?_ (grown_drewN _ _ _)))).mono ?_; rintro e w2 ⟨a2, rfl, hA2, g2⟩; have gW := grown_trans (grown_drew wa none) g2; have hS2 := hA.keep gW; have d8 := hS2.c 8 (.int .i64 p) rfl; have d9 := hS2.c 9 (.bool false) rfl; have d10 := hS2.c 10 (.int .i64 mi) rfl; have hn2 := (gW.block _ (by omega : w.heap.size < wa.heap.size) (by simp)).trans hnew; have x0 := cell_of_row w2 _ 0 _ _ _ hn2; have x1 := cell_of_row w2 _ 1 _ _ _ hn2; have x2 := cell_of_row w2 _ 2 _ _ _ hn2; have x3 := cell_of_row w2 _ 3 _ _ _ hn2; have y0 := frozen_of_row w2 _ 0 _ _ hn2; have y1 := frozen_of_row w2 _ 1 _ _ hn2; have y2 := frozen_of_row w2 _ 2 _ _ hn2; have y3 := frozen_of_row w2 _ 3 _ _ hn2; have hng : ¬ g = w.heap.size := (by omega); have hg2 := hS2.lt))
  have q4 := four_set w2 w.heap.size _ _ _ _ (.int .i64 p) (.bool false) (.int .i64 mi) (.slice a2 L L) _ hn2
  have g4 := four_grown w2 w.heap.size (.int .i64 p) (.bool false) (.int .i64 mi) (.slice a2 L L)
  go_wp2
  refine bodyPost_ret (v := FrA p false mi a2 L) (results_cell_row (p := 2) (by kernel_rfl) _ _ w.heap.size 42 _ (0, 0) _ rfl q4 Try.underlying42 rfl (by kernel_rfl)) rfl ?_
  have hlo : wa.drew.heap.size = w.heap.size + 1 := hwn
  refine ⟨a2, rfl, hS2.kept g4 (fun e => hng (Option.some.inj e)), ?_, grown_far (grown_trans gA gW) g4 (fun x e => by cases e; exact Nat.le_refl _)⟩
  refine (hA2.kept g4 ?_).wide (by omega)
  rcases hA2.cases with ⟨rfl, _, _⟩ | ⟨gx, rfl, hgx, _⟩
  · exact .inl rfl
  · refine .inr fun e => ?_
    have e2 : gx = w.heap.size := Option.some.inj e
    omega
set_option maxHeartbeats 4000000 in
theorem frame1_any (g gd L F H M k : Nat) (lk : Bool) (tk la p : Nat) (mi : Nat) (D : List Nat) (w : World) (h : SyB w g L F H M k lk tk la p true mi (.slice (some ⟨gd, 0, none⟩) L L)) (hrow : Ans w 0 (some ⟨gd, 0, none⟩) L L D) (hne : gd ≠ g) (hL : L ≤ 2048) :
    Calls Try.prog 41 #[.pointer (some ⟨g, 0, none⟩)] w fun e w' => ∃ a', e = .returned (FrA p true mi a' L) ∧ SyB w' g L F H M k lk tk la p true mi (.slice (some ⟨gd, 0, none⟩) L L) ∧ Ans w' w.heap.size a' L L (scrL (tuD true D)) ∧ w.grownBy w' (some gd) := by
  have gA := World.grownBy_alloc w (.cells #[.int .i64 0, .bool false, .int .i64 0, .slice none 0 0] 42) none
  have hA := h.keep gA
  have hnew := heap_alloc_new w (.cells #[.int .i64 0, .bool false, .int .i64 0, .slice none 0 0] 42)
  have rA := hrow.keep gA
  have hgl := h.lt
  go_enter Try.func41, Try.ntmps41
  generalize hwa : w.alloc (.cells #[.int .i64 0, .bool false, .int .i64 0, .slice none 0 0] 42) = wa at *
  have c11 := hA.c 11 (.slice (some ⟨gd, 0, none⟩) L L) rfl
  have c9 := hA.c 9 (.bool true) rfl
  have c8 := hA.c 8 (.int .i64 p) rfl
  have c10 := hA.c 10 (.int .i64 mi) rfl
  have hwn : wa.heap.size = w.heap.size + 1 := by rw [← hwa]; simp
  have HDl : Hid (D.length = L) := hrow.len
  have HD0 : Hid (D = tab L (fun i => if i < 0 then 255 - nth D i else nth D i)) := by
    show _ = _
    rw [← HDl.out]
    conv => lhs; rw [tab_self D]
    exact tab_ext _ _ _ (fun i _ => (if_neg (by omega)).symm)
  have hgdl : gd < w.heap.size := by rcases hrow.cases with ⟨h, _⟩ | ⟨g', h, _, h2⟩ <;> cases h; exact h2
  have hDB := hrow.byte
  rw [HD0.out] at rA
  have HDB : Hid (IsB D) := hDB
  clear hDB hrow
  go_wp2
  go_loopw [15] (fun i wr => ∃ n : Nat, n ≤ L ∧ i = .int .i64 n ∧ wa.grownBy wr (some gd) ∧ Ans wr 0 (some ⟨gd, 0, none⟩) L L (tab L (fun i => if i < n then 255 - nth D i else nth D i))) (fun i _ => L - (intOf i).toNat)
  case atStart => exact ⟨0, by omega, rfl, World.grownBy.refl _ _, rA⟩
  case round =>
    obtain ⟨n, hn, rfl, hgr, hAr⟩ := hrel
    by_cases hlt : n < L
    · have cn := own_cell hAr.own n hlt
      rw [tab_nth _ _ _ hlt, if_neg (by omega)] at cn
      have fn := hAr.own.frozenAt n
      have hb := HDB.out.nth n
      have hnot := not8 (nth D n) hb
      have hst := hAr.set n (255 - nth D n) (by omega)
      rw [tab_set L _ (fun i => if i < n + 1 then 255 - nth D i else nth D i) n _ hlt (if_pos (by omega)) (fun i hi hne' => by
        by_cases e : i < n
        · rw [if_pos e, if_pos (by omega)]
        · rw [if_neg e, if_neg (by omega)])] at hst
      go_wp2
      go_roundw
      case rel => exact ⟨n + 1, by omega, by go_num, grown_trans hgr (grown_set _ _ _ _), hst⟩
      case measure => simp [intOf]; omega
    · obtain rfl : n = L := by omega
      have HT : Hid (tab n (fun i => if i < n then 255 - nth D i else nth D i) = tuD true D) := by
        show _ = _
        unfold tuD
        rw [if_pos rfl, HDl.out]
        exact tab_ext n _ _ (fun i hi => if_pos hi)
      rw [HT.out] at hAr
      obtain ⟨wl, rfl⟩ : ∃ wl : World, wl = wr := ⟨_, rfl⟩
      have hAl := hA.kept hgr (fun e => hne (Option.some.inj e).symm)
      have e11 := hAl.c 11 (.slice (some ⟨gd, 0, none⟩) n n) rfl
      have e9 := hAl.c 9 (.bool true) rfl
      have e8 := hAl.c 8 (.int .i64 p) rfl
      have e10 := hAl.c 10 (.int .i64 mi) rfl
      have hnl := (hgr.block _ (by omega : w.heap.size < wa.heap.size) (by simp; omega)).trans hnew
      have hszl := hgr.size
      have hSc := fun w' (hg : wl.grownBy w' none) => scramble_any (some ⟨gd, 0, none⟩) n n (tuD true D) w' (hAr.rd.keep hg) (by omega)
      clear c8 c9 c10 c11
      go_wp2
      go_region_held3 (fun w' => w'.cell? ⟨g, 8, none⟩ = some (.int .i64 p) ∧ w'.cell? ⟨g, 9, none⟩ = some (.bool true) ∧ w'.cell? ⟨g, 10, none⟩ = some (.int .i64 mi)) (first | go_keep | (refine ⟨?_, ?_, ?_⟩ <;> rw [four_cell _ _ _ _ _ _ _ _ hng hg2] <;> assumption)) (first
        | (go_at_call 31; refine (hSc _ (by repeat (first | exact World.grownBy.refl _ _ | refine grown_trans ?_ (grown_drew _ _) | refine grown_trans ?_ (grown_drewN _ _ _)))).mono ?_; rintro e w2 ⟨a2, rfl, hA2, g2⟩; have gW := grown_trans (grown_drew wl none) g2; have hS2 := hAl.keep gW; have d8 := hS2.c 8 (.int .i64 p) rfl; have d9 := hS2.c 9 (.bool true) rfl; have d10 := hS2.c 10 (.int .i64 mi) rfl; have hn2 := (gW.block _ (by omega : w.heap.size < wl.heap.size) (by simp)).trans hnl; have x0 := cell_of_row w2 _ 0 _ _ _ hn2; have x1 := cell_of_row w2 _ 1 _ _ _ hn2; have x2 := cell_of_row w2 _ 2 _ _ _ hn2; have x3 := cell_of_row w2 _ 3 _ _ _ hn2; have y0 := frozen_of_row w2 _ 0 _ _ hn2; have y1 := frozen_of_row w2 _ 1 _ _ hn2; have y2 := frozen_of_row w2 _ 2 _ _ hn2; have y3 := frozen_of_row w2 _ 3 _ _ hn2; have hng : ¬ g = w.heap.size := (by omega); have hg2 := hS2.lt))
      have q4 := four_set w2 w.heap.size _ _ _ _ (.int .i64 p) (.bool true) (.int .i64 mi) (.slice a2 n n) _ hn2
      have g4 := four_grown w2 w.heap.size (.int .i64 p) (.bool true) (.int .i64 mi) (.slice a2 n n)
      go_wp2
      refine bodyPost_ret (v := FrA p true mi a2 n) (results_cell_row (p := 2) (by kernel_rfl) _ _ w.heap.size 42 _ (0, 0) _ rfl q4 Try.underlying42 rfl (by kernel_rfl)) rfl ?_
      have hlo : w.heap.size + 1 ≤ wl.drew.heap.size := (by show _ ≤ wl.heap.size; omega)
      refine ⟨a2, rfl, hS2.kept g4 (fun e => hng (Option.some.inj e)), ?_, grown_new (grown_trans (grown_weak gA _) (grown_trans hgr (grown_weak gW _))) g4 (.inr (Nat.le_refl _))⟩
      refine (hA2.kept g4 ?_).wide (by omega)
      rcases hA2.cases with ⟨rfl, _, _⟩ | ⟨gx, rfl, hgx, _⟩
      · exact .inl rfl
      · refine .inr fun e => ?_
        have e2 : gx = w.heap.size := Option.some.inj e
        omega
end Go.Proofs.Ythdjpbfknbafgaa
