import Derived.Laws.AppendOwnNone
import Derived.Deep.DeepAppendWide
import Derived.Test.YtgnicopijocnjaaDoorMk14
import Derived.OpenShut
import Derived.Test.YtgnicopijocnjaaDoorMk7
import Derived.Test.YtgnicopijocnjaaDoorMk0
import Derived.Test.YtgnicopijocnjaaDoorMk2
import Derived.Test.YtgnicopijocnjaaDoorMk8
import Derived.LaidHandle
namespace Go.Proofs.YtgnicopijocnjaaDoor
open Go.RowKit
set_option maxRecDepth 100000
set_option linter.unusedVariables false
set_option linter.unusedSimpArgs false

section
open Go.RowKit Go.Shelf


theorem cellGM {w w' : World} {g o : Nat} {v : Value} (h : w.cell? ⟨g, o, none⟩ = some v) (hG : w.grownBy w' none) : w'.cell? ⟨g, o, none⟩ = some v := by
  have hb : g < w.heap.size := by
    refine Nat.lt_of_not_le fun e => ?_
    have hn : w.heap[g]? = none := Array.getElem?_eq_none e
    simp [World.cell?, hn] at h
  exact (World.cell?_of_block (w := w) (hG.block g hb (by simp))).trans h
theorem flX_at (xs : List Px) : ∀ (i j : Nat) (x : Px), xs[i]? = some x → j < 4 → (flX xs)[i * 4 + j]? = (cellsX x)[j]? := by
  induction xs with
  | nil => intro i j p h; cases h
  | cons q xs ih =>
    intro i j x h hj
    show (cellsX q ++ flX xs)[i * 4 + j]? = _
    cases i with
    | zero =>
      have h : q = x := Option.some.inj h
      rw [List.getElem?_append_left (by simp [cellsX]; omega), h]
      simp
    | succ i =>
      rw [List.getElem?_append_right (by simp [cellsX]; omega)]
      have e : (i + 1) * 4 + j - (cellsX q).length = i * 4 + j := by simp [cellsX]; omega
      rw [e]
      exact ih i j x h hj
theorem OwX.at' {w : World} {lo n c i : Nat} {a : Option Addr} {xs : List Px} {x : Px} (h : OwX w lo a n c xs) (hx : xs[i]? = some x) : ∃ g, a = some ⟨g, 0, none⟩ ∧ w.cell? ⟨g, i * 4, none⟩ = some (.int .i64 x.N) ∧ w.cell? ⟨g, i * 4 + 1, none⟩ = some (.slice x.a x.n x.c) ∧ w.cell? ⟨g, i * 4 + 2, none⟩ = some (.int .i64 x.E) ∧ w.cell? ⟨g, i * 4 + 3, none⟩ = some (.int .i64 x.A) ∧ RdI w x.a x.n x.c x.M := by
  have hl := h.len
  have hi : i < xs.length := (List.getElem?_eq_some_iff.1 hx).1
  rcases h.row.2 with ⟨e, _⟩ | ⟨g, cap, cur, e, _⟩
  · simp only [Value.slice.injEq] at e
    omega
  · simp only [Value.slice.injEq] at e
    have cc : ∀ j u, (cellsX x)[j]? = some u → w.cell? ⟨g, i * 4 + j, none⟩ = some u := fun j u hu => by
      have hj : j < 4 := (List.getElem?_eq_some_iff.1 hu).1
      have h8 := h.row.cells (g := g) (by rw [e.1]; rfl) (i * 4 + j) u (by rw [flX_at xs i j x hx hj]; exact hu)
      rw [addr_add, Nat.zero_add] at h8
      exact h8
    exact ⟨g, e.1, cc 0 _ rfl, cc 1 _ rfl, cc 2 _ rfl, cc 3 _ rfl, (h.dat x (List.mem_of_getElem? hx)).rd⟩
/-- pokes as they came in -/
structure RdPkF (w : World) (a : Option Addr) (n cap : Nat) (F : Nat → Int × Int × Int) : Prop where
  rd : RdPk w a n cap F
  le : n ≤ cap
  max : cap ≤ maxLen
  none' : a = none → n = 0 ∧ cap = 0
def cells3 (p : Int × Int × Int) : List Value := [.int .i64 p.1, .int .i64 p.2.1, .int .i64 p.2.2]
def fl3 (ps : List (Int × Int × Int)) : List Value := ps.flatMap cells3
theorem fl3_len (ps : List (Int × Int × Int)) : (fl3 ps).length = ps.length * 3 := by
  induction ps with
  | nil => rfl
  | cons p ps ih => show (cells3 p ++ fl3 ps).length = _; rw [List.length_append, ih]; simp [cells3]; omega
theorem fl3_at (ps : List (Int × Int × Int)) : ∀ (i j : Nat) (p : Int × Int × Int), ps[i]? = some p → j < 3 → (fl3 ps)[i * 3 + j]? = (cells3 p)[j]? := by
  induction ps with
  | nil => intro i j p h; cases h
  | cons q ps ih =>
    intro i j p h hj
    show (cells3 q ++ fl3 ps)[i * 3 + j]? = _
    cases i with
    | zero =>
      have h : q = p := Option.some.inj h
      rw [List.getElem?_append_left (by simp [cells3]; omega), h]
      simp
    | succ i =>
      rw [List.getElem?_append_right (by simp [cells3]; omega)]
      have e : (i + 1) * 3 + j - (cells3 q).length = i * 3 + j := by simp [cells3]; omega
      rw [e]
      exact ih i j p h hj
theorem fl3_one (ps : List (Int × Int × Int)) : ∀ u, u ∈ fl3 ps → u.oneCell' = true := by
  intro u hu
  obtain ⟨p, _, h⟩ := List.mem_flatMap.1 hu
  simp only [cells3, List.mem_cons, List.not_mem_nil, or_false] at h
  rcases h with rfl | rfl | rfl <;> rfl
theorem Tryd.info_pk3 : (Tryd.prog.info? 33).map (fun i => (i.zero, i.size, i.bytes)) = some (some (.agg #[.int .i64 0, .int .i64 0, .int .i64 0]), 3, 24) := by kernel_rfl
/-- 'append([]api.Poke(nil), l...)' -/
theorem wpList_clK {w : World} {ops : Array Oper} {rest : List Oper} {o : Oper} {a : Act} {Q : Exit → Act → World → Prop} (hg : o.guard = none) (s x : Operand)
    (hop : o.op = Op.call { callee := .builtin .append, args := #[s, x], argTypes := #[22, 22] }) (hs : a.eval s = .slice none 0 0)
    (la : Option Addr) (ln lc : Nat) (F : Nat → Int × Int × Int) (hx : a.eval x = .slice la ln lc) (hR : RdPkF w la ln lc F) (hb : ln ≤ 1048576)
    (hK : ∀ a' c' w', RdPk w' a' ln c' F → w.grownBy w' none → wpList Tryd.prog ops Q rest (a.put o.dst (.slice a' ln c')) w') :
    wpList Tryd.prog ops Q (o :: rest) a w := by
  obtain ⟨i0, hi, hz0, hz1, hz2⟩ := info_parts Tryd.info_pk3
  cases la with
  | none =>
    obtain ⟨e1, e2⟩ := hR.none' rfl
    subst e1
    subst e2
    refine wpList_append_own_none hg s x _ hop 0 33 i0 3 Tryd.underlying22 hi (.slice none 0 0) 0 [] hs (World.ownsRow_nil _ _ _ _) hx ?_
    exact hK none 0 w ⟨fun h => by omega⟩ (World.grownBy.refl _ _)
  | some ad =>
    have hl : (fl3 ((List.range ln).map F)).length = ln * 3 := by rw [fl3_len, List.length_map, List.length_range]
    have hat : ∀ i j, i < ln → j < 3 → (fl3 ((List.range ln).map F))[i * 3 + j]? = (cells3 (F i))[j]? := fun i j hi hj => fl3_at _ i j (F i) (by rw [List.getElem?_map, List.getElem?_range hi]; rfl) hj
    refine wpList_append_own_wide w hg s x _ hop 0 33 i0 _ 3 24 Tryd.underlying22 hi hz0 hz1 hz2 rfl (by decide) (.slice none 0 0) 0 [] hs (World.ownsRow_nil _ _ _ _) ad ln lc (fl3 ((List.range ln).map F)) hx hl ?_ (fl3_one _) (by unfold maxLen; omega) (by omega) (Nat.zero_le _) ?_
    · intro j u hu
      have hj : j < ln * 3 := by rw [← hl]; exact (List.getElem?_eq_some_iff.1 hu).1
      obtain ⟨b, off, e', hc⟩ := hR.rd.at' (by omega)
      cases e'
      rw [addr_add]
      have h1 := hat (j / 3) (j % 3) (by omega) (by omega)
      rw [show j / 3 * 3 + j % 3 = j by omega, hu] at h1
      obtain ⟨h2, h3, h4⟩ := hc (j / 3) (by omega)
      have h5 : j % 3 = 0 ∨ j % 3 = 1 ∨ j % 3 = 2 := by omega
      rcases h5 with h5 | h5 | h5
      · rw [h5] at h1
        rw [show off + j = off + j / 3 * 3 from by omega]
        exact h2.trans h1.symm
      · rw [h5] at h1
        rw [show off + j = off + j / 3 * 3 + 1 from by omega]
        exact h3.trans h1.symm
      · rw [h5] at h1
        rw [show off + j = off + j / 3 * 3 + 2 from by omega]
        exact h4.trans h1.symm
    · intro v' w' hown hgr _
      rw [Nat.zero_add, List.nil_append] at hown
      rcases hown.2 with ⟨h1, h2⟩ | ⟨g, cap', cur, h1, _, h3, h4, h5, h6, h7⟩
      · subst h1
        subst h2
        exact hK none 0 w' ⟨fun h => by omega⟩ hgr
      · subst h1
        refine hK (some ⟨g, 0, none⟩) cap' w' ⟨fun h0 => ⟨g, 0, rfl, fun i hi => ?_⟩⟩ hgr
        have cc : ∀ j u, (cells3 (F i))[j]? = some u → w'.cell? ⟨g, 0 + i * 3 + j, none⟩ = some u := fun j u hu => by
          have hj : j < 3 := (List.getElem?_eq_some_iff.1 hu).1
          have h8 := hown.cells (g := g) rfl (i * 3 + j) u (by rw [hat i j hi hj]; exact hu)
          rw [addr_add] at h8
          rw [Nat.add_assoc]
          exact h8
        exact ⟨cc 0 _ rfl, cc 1 _ rfl, cc 2 _ rfl⟩

set_option maxHeartbeats 16000000 in
theorem pokes_bad (z : Int) (la : Option Addr) (ln lc : Nat) (F : Nat → Int × Int × Int) (w : World) (hR : RdPkF w la ln lc F) (hb : ln ≤ 1048576) (h : z < 1 ∨ 4096 < z) : Calls Tryd.prog 3 #[.int .i64 z, .slice la ln lc] w fun e w' => e = .returned (.bool true) ∧ w.grownBy w' none := by
  have H1 := fun wz => poked_bad z la ln lc wz h
  have H2 := fun a m c wz => remember_bad z a m c wz h
  have HR : Hid _ := hR
  clear hR h
  go_enter Tryd.func3, Tryd.ntmps3
  go_wp2_with (first
    | (go_at_call 4; refine (H1 _).mono ?_; rintro e wT ⟨rfl, hwT⟩; have hwT := hwT.symm; subst hwT)
    | (go_at_call 5; refine (H2 _ _ _ _).mono ?_; rintro e wT ⟨rfl, hwT⟩; have hwT := hwT.symm; subst hwT)
    | (at_builtin; refine wpList_clK rfl (.const (.slice none 0 0)) (.tmp 18) rfl rfl la ln lc F rfl HR.out hb ?_; intro a' c' w2 hR2 g2))
  go_loopw [9] (fun iv wr => iv = .int .i64 0 ∧ wr = w2) (fun _ _ => 0)
  case atStart => exact ⟨rfl, rfl⟩
  case round =>
    obtain ⟨rfl, rfl⟩ := hrel
    go_wp2
    go_ret
    exact ⟨rfl, g2⟩

set_option maxHeartbeats 16000000 in
theorem pokes_good (sz : Nat) (la : Option Addr) (m lc : Nat) (F : Nat → Int × Int × Int) (w : World) (hR : RdPkF w la m lc F) (hb : m ≤ 1048576) (h1 : 1 ≤ sz) (h2 : sz ≤ 4096) (hH : HdE w) : Calls Tryd.prog 3 #[.int .i64 sz, .slice la m lc] w fun e w' => e = .returned (.bool true) ∧ w.grownBy w' none := by
  have H1 := poked_any sz m lc la F w hR.rd h1 h2 (by omega)
  have H2 := fun a c wz hr hh => remember_any sz m c a F wz hr h1 h2 (by omega) hh
  have HR : Hid _ := hR
  have HH : Hid _ := hH
  clear hR hH
  generalize pkT (List.replicate sz 0, 0) F m = L at H1 H2
  go_enter Tryd.func3, Tryd.ntmps3
  go_wp2_with (first
    | (go_at_call 4; refine H1.mono ?_; rintro e w1 ⟨bo, cb, ys, rfl, hO1, hd1, g1⟩; have HO1 : Hid _ := hO1; have HD1 : Hid _ := hd1; clear hO1 hd1; have hR1 : RdPkF w1 la m lc F := ⟨RdPk.frm (RdPkF.rd HR.out) (Frm.of g1 (fun k e _ => by cases e)), RdPkF.le HR.out, RdPkF.max HR.out, RdPkF.none' HR.out⟩; have HR1 : Hid _ := hR1; clear hR1; have HH1 : Hid (HdE w1) := HdE.keep (w := w) HH.out g1 (by simp))
    | (at_builtin; refine wpList_clK rfl (.const (.slice none 0 0)) (.tmp 18) rfl rfl la m lc F rfl HR1.out hb ?_; intro a' c' w2 hR2 g2; have HR2 : Hid _ := hR2; clear hR2)
    | (go_at_call 5; refine (H2 _ _ _ HR2.out (HdE.keep (w := w1) HH1.out g2 (by simp))).mono ?_; rintro e w3 ⟨ao, ca, xs, rfl, hO3, hd3, g3⟩; have HO3 : Hid _ := hO3; have HD3 : Hid _ := hd3; clear hO3 hd3))
  have g03 := grown_trans (grown_trans g1 g2) g3
  have hOb := (OwX.keep (OwX.keep HO1.out g2) g3)
  have HOB : Hid _ := hOb
  clear hOb HO1 HR1 HR2 HH1 g1 g2 g3
  go_loopw [9] (fun iv wr => ∃ i : Nat, i ≤ m ∧ iv = .int .i64 (i : Nat) ∧ w3.grownBy wr none) (fun iv _ => m - (intOf iv).toNat)
  case atStart => exact ⟨0, Nat.zero_le _, rfl, World.grownBy.refl _ _⟩
  case round =>
    obtain ⟨i, hi, rfl, hG⟩ := hrel
    by_cases hlt : i < m
    · have hlt' : (i : Int) < (m : Int) := by omega
      obtain ⟨x, hx⟩ : ∃ x, xs[i]? = some x := ⟨_, List.getElem?_eq_getElem (by rw [HO3.out.len]; exact hlt)⟩
      obtain ⟨y, hy⟩ : ∃ y, ys[i]? = some y := ⟨_, List.getElem?_eq_getElem (by rw [HOB.out.len]; exact hlt)⟩
      have hxy : datX x = datX y := by
        have e1 : (xs.map datX)[i]? = some (datX x) := by rw [List.getElem?_map, hx]; rfl
        have e2 : (ys.map datX)[i]? = some (datX y) := by rw [List.getElem?_map, hy]; rfl
        rw [HD3.out, ← HD1.out] at e1
        exact Option.some.inj (e1.symm.trans e2)
      obtain ⟨ga, ea, p0, p1, p2, p3, pr⟩ := (HO3.out.keep (grown_trans hG (grown_drew wr none))).at' hx
      obtain ⟨gb, eb, q0, q1, q2, q3, qr⟩ := (HOB.out.keep (grown_trans hG (grown_drew wr none))).at' hy
      obtain ⟨N, xa, xn, xc, M, E, A⟩ := x
      obtain ⟨N', ya, yn, yc, M', E', A'⟩ := y
      have e1 : N = N' := congrArg (·.1) hxy
      have e2 : M = M' := congrArg (·.2.1) hxy
      have e3 : E = E' := congrArg (·.2.2.1) hxy
      have e4 : A = A' := congrArg (·.2.2.2) hxy
      subst e1 e2 e3 e4
      dsimp only at p0 p1 p2 p3 pr q0 q1 q2 q3 qr
      have HEa : Hid _ := ea
      have HEb : Hid _ := eb
      clear hx hy hxy ea eb
      obtain rfl := HEa.out
      obtain rfl := HEb.out
      clear HEa HEb HO3 HOB HD1 HD3
      have hSI := fun wz (hg : wr.drew.grownBy wz none) => sameInts_any xa ya xn yn xc yc M wz (pr.keep hg) (qr.keep hg)
      have HSI : Hid _ := hSI
      clear pr qr hSI
      refine wp_seq_k fun K1 hK1 => ?_
      have HK1 : Hid _ := hK1
      clear hK1
      go_wp2
      (try simp only [Exit.inBlock, Exit.then])
      refine HK1.out _ _ ?_
      clear HK1
      refine wp_seq_k fun K2 hK2 => ?_
      have HK2 : Hid _ := hK2
      clear hK2
      refine wp_block ?_
      refine wp_seq_k fun K3 hK3 => ?_
      have HK3 : Hid _ := hK3
      clear hK3
      have hSI := HSI.out
      have GD := grown_drew wr none
      have SS := World.grownBy.refl wr.drew none
      refine wp_regionM (fun wz => wr.drew.grownBy wz none) [] #[false, false, false, false, false, false, false, false, false, false, false, false, false, false, false, false, false, false, false, false, false, false, false, false, false, false, false, false, false, false, false, false, false, false, false, false, false, false, false, false, false, false, false, false, false, false, false, false, false, false, false] rfl (by kernel_rfl) ?_
      try simp only [List.getElem_toArray, List.getElem_cons_succ, List.getElem_cons_zero, Act.put, List.setIfInBounds_toArray, List.set_cons_zero, List.set_cons_succ]
      refine wpAnyY_takeF 0 (.slice (some ⟨ga, 0, none⟩) m ca) rfl (by kernel_rfl) (fun _ _ _ h => h) rfl (by intro wz; go_simp; try rfl) ?_
      try simp only [List.getElem_toArray, List.getElem_cons_succ, List.getElem_cons_zero, Act.put, List.setIfInBounds_toArray, List.set_cons_zero, List.set_cons_succ]
      refine wpAnyY_takeF 1 (.int .i64 (i : Nat)) rfl (by kernel_rfl) (fun _ _ _ h => h) rfl (by intro wz; go_simp; try rfl) ?_
      try simp only [List.getElem_toArray, List.getElem_cons_succ, List.getElem_cons_zero, Act.put, List.setIfInBounds_toArray, List.set_cons_zero, List.set_cons_succ]
      refine wpAnyY_takeF 2 (.pointer (some ⟨ga, i * 4, none⟩)) rfl (by kernel_rfl) (fun _ _ _ h => h) rfl (by intro wz; go_simp; try rfl) ?_
      try simp only [List.getElem_toArray, List.getElem_cons_succ, List.getElem_cons_zero, Act.put, List.setIfInBounds_toArray, List.set_cons_zero, List.set_cons_succ]
      refine wpAnyY_takeF 3 (.pointer (some ⟨ga, i * 4, none⟩)) rfl (by kernel_rfl) (fun _ _ _ h => h) rfl (by intro wz; go_simp; try rfl) ?_
      try simp only [List.getElem_toArray, List.getElem_cons_succ, List.getElem_cons_zero, Act.put, List.setIfInBounds_toArray, List.set_cons_zero, List.set_cons_succ]
      refine wpAnyY_take [] 4 (.int .i64 N) rfl (by kernel_rfl) (fun _ _ _ h => h) (World.grownBy.refl _ _) rfl (by rintro wz hG; have hc := cellGM p0 hG; go_simp) ?_
      try simp only [List.getElem_toArray, List.getElem_cons_succ, List.getElem_cons_zero, Act.put, List.setIfInBounds_toArray, List.set_cons_zero, List.set_cons_succ]
      refine wpAnyY_takeF 5 (.slice (some ⟨gb, 0, none⟩) m cb) rfl (by kernel_rfl) (fun _ _ _ h => h) rfl (by intro wz; go_simp; try rfl) ?_
      try simp only [List.getElem_toArray, List.getElem_cons_succ, List.getElem_cons_zero, Act.put, List.setIfInBounds_toArray, List.set_cons_zero, List.set_cons_succ]
      refine wpAnyY_takeF 6 (.int .i64 (i : Nat)) rfl (by kernel_rfl) (fun _ _ _ h => h) rfl (by intro wz; go_simp; try rfl) ?_
      try simp only [List.getElem_toArray, List.getElem_cons_succ, List.getElem_cons_zero, Act.put, List.setIfInBounds_toArray, List.set_cons_zero, List.set_cons_succ]
      refine wpAnyY_takeF 7 (.pointer (some ⟨gb, i * 4, none⟩)) rfl (by kernel_rfl) (fun _ _ _ h => h) rfl (by intro wz; go_simp; try rfl) ?_
      try simp only [List.getElem_toArray, List.getElem_cons_succ, List.getElem_cons_zero, Act.put, List.setIfInBounds_toArray, List.set_cons_zero, List.set_cons_succ]
      refine wpAnyY_takeF 8 (.pointer (some ⟨gb, i * 4, none⟩)) rfl (by kernel_rfl) (fun _ _ _ h => h) rfl (by intro wz; go_simp; try rfl) ?_
      try simp only [List.getElem_toArray, List.getElem_cons_succ, List.getElem_cons_zero, Act.put, List.setIfInBounds_toArray, List.set_cons_zero, List.set_cons_succ]
      refine wpAnyY_take [] 9 (.int .i64 N) rfl (by kernel_rfl) (fun _ _ _ h => h) (World.grownBy.refl _ _) rfl (by rintro wz hG; have hc := cellGM q0 hG; go_simp) ?_
      try simp only [List.getElem_toArray, List.getElem_cons_succ, List.getElem_cons_zero, Act.put, List.setIfInBounds_toArray, List.set_cons_zero, List.set_cons_succ]
      refine wpAnyY_takeF 10 (.bool false) rfl (by kernel_rfl) (fun _ _ _ h => h) rfl (by intro wz; go_simp; try rfl) ?_
      try simp only [List.getElem_toArray, List.getElem_cons_succ, List.getElem_cons_zero, Act.put, List.setIfInBounds_toArray, List.set_cons_zero, List.set_cons_succ]
      refine wpAnyY_takeF 11 (.bool false) rfl (by kernel_rfl) (fun _ _ _ h => h) rfl (by intro wz; go_simp; try rfl) ?_
      try simp only [List.getElem_toArray, List.getElem_cons_succ, List.getElem_cons_zero, Act.put, List.setIfInBounds_toArray, List.set_cons_zero, List.set_cons_succ]
      refine wpAnyY_takeF 12 (.slice (some ⟨ga, 0, none⟩) m ca) rfl (by kernel_rfl) (fun _ _ _ h => h) rfl (by intro wz; go_simp; try rfl) ?_
      try simp only [List.getElem_toArray, List.getElem_cons_succ, List.getElem_cons_zero, Act.put, List.setIfInBounds_toArray, List.set_cons_zero, List.set_cons_succ]
      refine wpAnyY_takeF 13 (.int .i64 (i : Nat)) rfl (by kernel_rfl) (fun _ _ _ h => h) rfl (by intro wz; go_simp; try rfl) ?_
      try simp only [List.getElem_toArray, List.getElem_cons_succ, List.getElem_cons_zero, Act.put, List.setIfInBounds_toArray, List.set_cons_zero, List.set_cons_succ]
      refine wpAnyY_takeF 14 (.pointer (some ⟨ga, i * 4, none⟩)) rfl (by kernel_rfl) (fun _ _ _ h => h) rfl (by intro wz; go_simp; try rfl) ?_
      try simp only [List.getElem_toArray, List.getElem_cons_succ, List.getElem_cons_zero, Act.put, List.setIfInBounds_toArray, List.set_cons_zero, List.set_cons_succ]
      refine wpAnyY_takeF 15 (.pointer (some ⟨ga, i * 4 + 2, none⟩)) rfl (by kernel_rfl) (fun _ _ _ h => h) rfl (by intro wz; go_simp; try rfl) ?_
      try simp only [List.getElem_toArray, List.getElem_cons_succ, List.getElem_cons_zero, Act.put, List.setIfInBounds_toArray, List.set_cons_zero, List.set_cons_succ]
      refine wpAnyY_take [] 16 (.int .i64 E) rfl (by kernel_rfl) (fun _ _ _ h => h) (World.grownBy.refl _ _) rfl (by rintro wz hG; have hc := cellGM p2 hG; go_simp) ?_
      try simp only [List.getElem_toArray, List.getElem_cons_succ, List.getElem_cons_zero, Act.put, List.setIfInBounds_toArray, List.set_cons_zero, List.set_cons_succ]
      refine wpAnyY_takeF 17 (.slice (some ⟨gb, 0, none⟩) m cb) rfl (by kernel_rfl) (fun _ _ _ h => h) rfl (by intro wz; go_simp; try rfl) ?_
      try simp only [List.getElem_toArray, List.getElem_cons_succ, List.getElem_cons_zero, Act.put, List.setIfInBounds_toArray, List.set_cons_zero, List.set_cons_succ]
      refine wpAnyY_takeF 18 (.int .i64 (i : Nat)) rfl (by kernel_rfl) (fun _ _ _ h => h) rfl (by intro wz; go_simp; try rfl) ?_
      try simp only [List.getElem_toArray, List.getElem_cons_succ, List.getElem_cons_zero, Act.put, List.setIfInBounds_toArray, List.set_cons_zero, List.set_cons_succ]
      refine wpAnyY_takeF 19 (.pointer (some ⟨gb, i * 4, none⟩)) rfl (by kernel_rfl) (fun _ _ _ h => h) rfl (by intro wz; go_simp; try rfl) ?_
      try simp only [List.getElem_toArray, List.getElem_cons_succ, List.getElem_cons_zero, Act.put, List.setIfInBounds_toArray, List.set_cons_zero, List.set_cons_succ]
      refine wpAnyY_takeF 20 (.pointer (some ⟨gb, i * 4 + 2, none⟩)) rfl (by kernel_rfl) (fun _ _ _ h => h) rfl (by intro wz; go_simp; try rfl) ?_
      try simp only [List.getElem_toArray, List.getElem_cons_succ, List.getElem_cons_zero, Act.put, List.setIfInBounds_toArray, List.set_cons_zero, List.set_cons_succ]
      refine wpAnyY_take [] 21 (.int .i64 E) rfl (by kernel_rfl) (fun _ _ _ h => h) (World.grownBy.refl _ _) rfl (by rintro wz hG; have hc := cellGM q2 hG; go_simp) ?_
      try simp only [List.getElem_toArray, List.getElem_cons_succ, List.getElem_cons_zero, Act.put, List.setIfInBounds_toArray, List.set_cons_zero, List.set_cons_succ]
      refine wpAnyY_takeF 22 (.bool false) rfl (by kernel_rfl) (fun _ _ _ h => h) rfl (by intro wz; go_simp; try rfl) ?_
      try simp only [List.getElem_toArray, List.getElem_cons_succ, List.getElem_cons_zero, Act.put, List.setIfInBounds_toArray, List.set_cons_zero, List.set_cons_succ]
      refine wpAnyY_takeF 23 (.bool false) rfl (by kernel_rfl) (fun _ _ _ h => h) rfl (by intro wz; go_simp; try rfl) ?_
      try simp only [List.getElem_toArray, List.getElem_cons_succ, List.getElem_cons_zero, Act.put, List.setIfInBounds_toArray, List.set_cons_zero, List.set_cons_succ]
      refine wpAnyY_takeF 24 (.bool false) rfl (by kernel_rfl) (fun _ _ _ h => h) rfl (by intro wz; go_simp; try rfl) ?_
      try simp only [List.getElem_toArray, List.getElem_cons_succ, List.getElem_cons_zero, Act.put, List.setIfInBounds_toArray, List.set_cons_zero, List.set_cons_succ]
      refine wpAnyY_takeF 25 (.slice (some ⟨ga, 0, none⟩) m ca) rfl (by kernel_rfl) (fun _ _ _ h => h) rfl (by intro wz; go_simp; try rfl) ?_
      try simp only [List.getElem_toArray, List.getElem_cons_succ, List.getElem_cons_zero, Act.put, List.setIfInBounds_toArray, List.set_cons_zero, List.set_cons_succ]
      refine wpAnyY_takeF 26 (.int .i64 (i : Nat)) rfl (by kernel_rfl) (fun _ _ _ h => h) rfl (by intro wz; go_simp; try rfl) ?_
      try simp only [List.getElem_toArray, List.getElem_cons_succ, List.getElem_cons_zero, Act.put, List.setIfInBounds_toArray, List.set_cons_zero, List.set_cons_succ]
      refine wpAnyY_takeF 27 (.pointer (some ⟨ga, i * 4, none⟩)) rfl (by kernel_rfl) (fun _ _ _ h => h) rfl (by intro wz; go_simp; try rfl) ?_
      try simp only [List.getElem_toArray, List.getElem_cons_succ, List.getElem_cons_zero, Act.put, List.setIfInBounds_toArray, List.set_cons_zero, List.set_cons_succ]
      refine wpAnyY_takeF 28 (.pointer (some ⟨ga, i * 4 + 3, none⟩)) rfl (by kernel_rfl) (fun _ _ _ h => h) rfl (by intro wz; go_simp; try rfl) ?_
      try simp only [List.getElem_toArray, List.getElem_cons_succ, List.getElem_cons_zero, Act.put, List.setIfInBounds_toArray, List.set_cons_zero, List.set_cons_succ]
      refine wpAnyY_take [] 29 (.int .i64 A) rfl (by kernel_rfl) (fun _ _ _ h => h) (World.grownBy.refl _ _) rfl (by rintro wz hG; have hc := cellGM p3 hG; go_simp) ?_
      try simp only [List.getElem_toArray, List.getElem_cons_succ, List.getElem_cons_zero, Act.put, List.setIfInBounds_toArray, List.set_cons_zero, List.set_cons_succ]
      refine wpAnyY_takeF 30 (.slice (some ⟨gb, 0, none⟩) m cb) rfl (by kernel_rfl) (fun _ _ _ h => h) rfl (by intro wz; go_simp; try rfl) ?_
      try simp only [List.getElem_toArray, List.getElem_cons_succ, List.getElem_cons_zero, Act.put, List.setIfInBounds_toArray, List.set_cons_zero, List.set_cons_succ]
      refine wpAnyY_takeF 31 (.int .i64 (i : Nat)) rfl (by kernel_rfl) (fun _ _ _ h => h) rfl (by intro wz; go_simp; try rfl) ?_
      try simp only [List.getElem_toArray, List.getElem_cons_succ, List.getElem_cons_zero, Act.put, List.setIfInBounds_toArray, List.set_cons_zero, List.set_cons_succ]
      refine wpAnyY_takeF 32 (.pointer (some ⟨gb, i * 4, none⟩)) rfl (by kernel_rfl) (fun _ _ _ h => h) rfl (by intro wz; go_simp; try rfl) ?_
      try simp only [List.getElem_toArray, List.getElem_cons_succ, List.getElem_cons_zero, Act.put, List.setIfInBounds_toArray, List.set_cons_zero, List.set_cons_succ]
      refine wpAnyY_takeF 33 (.pointer (some ⟨gb, i * 4 + 3, none⟩)) rfl (by kernel_rfl) (fun _ _ _ h => h) rfl (by intro wz; go_simp; try rfl) ?_
      try simp only [List.getElem_toArray, List.getElem_cons_succ, List.getElem_cons_zero, Act.put, List.setIfInBounds_toArray, List.set_cons_zero, List.set_cons_succ]
      refine wpAnyY_take [] 34 (.int .i64 A) rfl (by kernel_rfl) (fun _ _ _ h => h) (World.grownBy.refl _ _) rfl (by rintro wz hG; have hc := cellGM q3 hG; go_simp) ?_
      try simp only [List.getElem_toArray, List.getElem_cons_succ, List.getElem_cons_zero, Act.put, List.setIfInBounds_toArray, List.set_cons_zero, List.set_cons_succ]
      refine wpAnyY_takeF 35 (.bool false) rfl (by kernel_rfl) (fun _ _ _ h => h) rfl (by intro wz; go_simp; try rfl) ?_
      try simp only [List.getElem_toArray, List.getElem_cons_succ, List.getElem_cons_zero, Act.put, List.setIfInBounds_toArray, List.set_cons_zero, List.set_cons_succ]
      refine wpAnyY_takeF 36 (.bool false) rfl (by kernel_rfl) (fun _ _ _ h => h) rfl (by intro wz; go_simp; try rfl) ?_
      try simp only [List.getElem_toArray, List.getElem_cons_succ, List.getElem_cons_zero, Act.put, List.setIfInBounds_toArray, List.set_cons_zero, List.set_cons_succ]
      refine wpAnyY_takeF 37 (.bool false) rfl (by kernel_rfl) (fun _ _ _ h => h) rfl (by intro wz; go_simp; try rfl) ?_
      try simp only [List.getElem_toArray, List.getElem_cons_succ, List.getElem_cons_zero, Act.put, List.setIfInBounds_toArray, List.set_cons_zero, List.set_cons_succ]
      refine wpAnyY_takeF 38 (.slice (some ⟨ga, 0, none⟩) m ca) rfl (by kernel_rfl) (fun _ _ _ h => h) rfl (by intro wz; go_simp; try rfl) ?_
      try simp only [List.getElem_toArray, List.getElem_cons_succ, List.getElem_cons_zero, Act.put, List.setIfInBounds_toArray, List.set_cons_zero, List.set_cons_succ]
      refine wpAnyY_takeF 39 (.int .i64 (i : Nat)) rfl (by kernel_rfl) (fun _ _ _ h => h) rfl (by intro wz; go_simp; try rfl) ?_
      try simp only [List.getElem_toArray, List.getElem_cons_succ, List.getElem_cons_zero, Act.put, List.setIfInBounds_toArray, List.set_cons_zero, List.set_cons_succ]
      refine wpAnyY_takeF 40 (.pointer (some ⟨ga, i * 4, none⟩)) rfl (by kernel_rfl) (fun _ _ _ h => h) rfl (by intro wz; go_simp; try rfl) ?_
      try simp only [List.getElem_toArray, List.getElem_cons_succ, List.getElem_cons_zero, Act.put, List.setIfInBounds_toArray, List.set_cons_zero, List.set_cons_succ]
      refine wpAnyY_takeF 41 (.pointer (some ⟨ga, i * 4 + 1, none⟩)) rfl (by kernel_rfl) (fun _ _ _ h => h) rfl (by intro wz; go_simp; try rfl) ?_
      try simp only [List.getElem_toArray, List.getElem_cons_succ, List.getElem_cons_zero, Act.put, List.setIfInBounds_toArray, List.set_cons_zero, List.set_cons_succ]
      refine wpAnyY_take [] 42 (.slice xa xn xc) rfl (by kernel_rfl) (fun _ _ _ h => h) (World.grownBy.refl _ _) rfl (by rintro wz hG; have hc := cellGM p1 hG; go_simp) ?_
      try simp only [List.getElem_toArray, List.getElem_cons_succ, List.getElem_cons_zero, Act.put, List.setIfInBounds_toArray, List.set_cons_zero, List.set_cons_succ]
      refine wpAnyY_takeF 43 (.slice (some ⟨gb, 0, none⟩) m cb) rfl (by kernel_rfl) (fun _ _ _ h => h) rfl (by intro wz; go_simp; try rfl) ?_
      try simp only [List.getElem_toArray, List.getElem_cons_succ, List.getElem_cons_zero, Act.put, List.setIfInBounds_toArray, List.set_cons_zero, List.set_cons_succ]
      refine wpAnyY_takeF 44 (.int .i64 (i : Nat)) rfl (by kernel_rfl) (fun _ _ _ h => h) rfl (by intro wz; go_simp; try rfl) ?_
      try simp only [List.getElem_toArray, List.getElem_cons_succ, List.getElem_cons_zero, Act.put, List.setIfInBounds_toArray, List.set_cons_zero, List.set_cons_succ]
      refine wpAnyY_takeF 45 (.pointer (some ⟨gb, i * 4, none⟩)) rfl (by kernel_rfl) (fun _ _ _ h => h) rfl (by intro wz; go_simp; try rfl) ?_
      try simp only [List.getElem_toArray, List.getElem_cons_succ, List.getElem_cons_zero, Act.put, List.setIfInBounds_toArray, List.set_cons_zero, List.set_cons_succ]
      refine wpAnyY_takeF 46 (.pointer (some ⟨gb, i * 4 + 1, none⟩)) rfl (by kernel_rfl) (fun _ _ _ h => h) rfl (by intro wz; go_simp; try rfl) ?_
      try simp only [List.getElem_toArray, List.getElem_cons_succ, List.getElem_cons_zero, Act.put, List.setIfInBounds_toArray, List.set_cons_zero, List.set_cons_succ]
      refine wpAnyY_take [] 47 (.slice ya yn yc) rfl (by kernel_rfl) (fun _ _ _ h => h) (World.grownBy.refl _ _) rfl (by rintro wz hG; have hc := cellGM q1 hG; go_simp) ?_
      try simp only [List.getElem_toArray, List.getElem_cons_succ, List.getElem_cons_zero, Act.put, List.setIfInBounds_toArray, List.set_cons_zero, List.set_cons_succ]
      refine wpAnyY_oneB 48 rfl (by kernel_rfl) (fun KK hKK => ?_)
      go_simp
      go_at_call 6
      refine (hSI _ (World.grownBy.refl _ _)).mono ?_
      rintro e wE ⟨rfl, gE⟩
      dsimp only
      refine hKK _ _ (fun h _ => grown_trans h gE) ?_
      try simp only [List.getElem_toArray, List.getElem_cons_succ, List.getElem_cons_zero, Act.put, List.setIfInBounds_toArray, List.set_cons_zero, List.set_cons_succ]
      refine wpAnyY_takeF 49 (.bool false) rfl (by kernel_rfl) (fun _ _ _ h => h) rfl (by intro wz; go_simp; try rfl) ?_
      try simp only [List.getElem_toArray, List.getElem_cons_succ, List.getElem_cons_zero, Act.put, List.setIfInBounds_toArray, List.set_cons_zero, List.set_cons_succ]
      refine wpAnyY_takeF 50 (.bool false) rfl (by kernel_rfl) (fun _ _ _ h => h) rfl (by intro wz; go_simp; try rfl) ?_
      try simp only [List.getElem_toArray, List.getElem_cons_succ, List.getElem_cons_zero, Act.put, List.setIfInBounds_toArray, List.set_cons_zero, List.set_cons_succ]
      refine wpAnyY_doneB (by kernel_rfl) ?_ _
      (try simp only [Exit.inBlock, Exit.then])
      refine HK3.out _ _ ?_
      clear HK3
      go_wp2
      (try simp only [Exit.inBlock, Exit.then])
      refine HK2.out _ _ ?_
      clear HK2
      go_wp2
      go_roundw
      case rel => exact ⟨i + 1, by omega, by go_num, grown_trans (grown_trans hG GD) gE⟩
      case measure => simp [intOf]; omega
    · obtain rfl : i = m := by omega
      go_wp2
      go_ret
      exact ⟨rfl, grown_trans g03 hG⟩
end

section
abbrev ShK : Sh := Sh.fcons 1 (.int .i64) (.fcons 1 (.int .i64) (.fcons 1 (.int .i64) .fend))
theorem met_poke {w : World} {full : Bool} {n : Nat} {cs : List Value} (h : ShK.met w full cs n) : ∃ p : Int × Int × Int, cs = cells3 p ∧ 1 ≤ n := by
  obtain ⟨n0, m0, rfl, ⟨h0, a, e0, k0⟩, n1, m1, rfl, ⟨h1, b, e1, k1⟩, n2, m2, rfl, ⟨h2, c, e2, k2⟩, e3, _⟩ := h
  refine ⟨(a, b, c), ?_, by omega⟩
  unfold cells3
  match cs with
  | [] => simp at e0
  | [_] => simp at e1
  | [_, _] => simp at e2
  | [x0, x1, x2] => simp_all
  | x0 :: x1 :: x2 :: x3 :: r => simp at e3
theorem sumN_ge (G : Nat → Nat) : ∀ n, (∀ i, i < n → 1 ≤ G i) → n ≤ sumN G n
  | 0, _ => Nat.le_refl _
  | n + 1, h => by
    have h1 := sumN_ge G n (fun i hi => h i (by omega))
    have h2 := h n (by omega)
    show n + 1 ≤ sumN G n + G n
    omega
theorem shown_pokes {w : World} {full : Bool} {N : Nat} {v : Value} (h : (Sh.slice 3 24 ShK).shown w full v N) : ∃ a len cap F, v = .slice a len cap ∧ RdPkF w a len cap F ∧ len ≤ N := by
  have h : (Sh.slice 3 24 ShK).met w full [v] N := h
  rcases h with ⟨rfl, e⟩ | ⟨x, len, cap, G, C, e, e', hl, hm, hf, hc⟩
  · cases e
    exact ⟨none, 0, 0, fun _ => (0, 0, 0), rfl, ⟨⟨fun h => by omega⟩, Nat.le_refl _, Nat.zero_le _, fun _ => ⟨rfl, rfl⟩⟩, by omega⟩
  · cases e
    have each : ∀ i, i < cap → ∃ p : Int × Int × Int, (∀ j, j < 3 → w.cell? (x.add (i * 3 + j)) = (cells3 p)[j]?) ∧ 1 ≤ G i := by
      intro i hi
      obtain ⟨h1, h2, h3⟩ := hc i hi
      obtain ⟨p, e, hp⟩ := met_poke h3
      refine ⟨p, fun j hj => ?_, hp⟩
      rw [h2 j hj, e]
    obtain ⟨K, hK⟩ := Go.Deep.choose_lt each
    have hN := sumN_ge G cap (fun i hi => (hK i hi).2)
    refine ⟨some x, len, cap, K, rfl, ⟨⟨fun h0 => ?_⟩, hl, hm, fun h => by cases h⟩, by omega⟩
    obtain ⟨b, off, spot⟩ := x
    have hc0 := (hK 0 (by omega)).1 0 (by decide)
    have h0' : w.cell? (⟨b, off, spot⟩ : Addr) = some (.int .i64 (K 0).1) := by simpa [Addr.add, cells3] using hc0
    have hspot : spot = none := by simpa using World.cell?_spot h0'
    subst hspot
    have cc : ∀ i, i < len → ∀ j u, j < 3 → (cells3 (K i))[j]? = some u → w.cell? ⟨b, off + i * 3 + j, none⟩ = some u := fun i hi j u hj hu => by
      rw [Nat.add_assoc, ← addr_add, (hK i (by omega)).1 j hj]
      exact hu
    exact ⟨b, off, rfl, fun i hi => ⟨cc i hi 0 _ (by decide) rfl, cc i hi 1 _ (by decide) rfl, cc i hi 2 _ (by decide) rfl⟩⟩
theorem err_row : ∀ t : Nat, t < Tryd.prog.types.size → Tryd.prog.rowNamed t [101, 114, 114, 111, 114] = true → t = 40 := by
  have h : (List.range Tryd.prog.types.size).all (fun t => !Tryd.prog.rowNamed t [101, 114, 114, 111, 114] || t == 40) = true := by kernel_rfl
  intro t ht hn
  have := List.all_eq_true.1 h t (List.mem_range.2 ht)
  rw [hn] at this
  simpa using this
end
end Go.Proofs.YtgnicopijocnjaaDoor
