import Derived.Test.YtnimehkfnpepfaaTk10
import Derived.Test.YtnimehkfnpepfaaTk4
import Derived.Test.YtnimehkfnpepfaaTk8
import Derived.Test.YtnimehkfnpepfaaTk7
import Derived.Test.YtnimehkfnpepfaaTk9
import Derived.Test.YtnimehkfnpepfaaTk6
namespace Go.Proofs.Ytnimehkfnpepfaa
open Go.RowKit
set_option maxRecDepth 100000
set_option linter.unusedVariables false
set_option linter.unusedSimpArgs false

section
set_option maxHeartbeats 8000000 in
theorem overGi_any (w : World) (lo : Nat) (q : Option Addr) (m d : Nat) (G : List (Int × Int)) (h : OwGi w lo q m d G) (hm : m ≤ 8796093021952) :
    Calls Try.prog 23 #[.slice q m d] w fun e w' => e = .returned (.tuple #[]) ∧ w.grownBy w' (Value.slice q m d).ownBlock := by
  obtain ⟨i0, hi, hz0, hz1, hz2⟩ := info_parts Try.info_pr
  rcases h.own.2 with ⟨h1, h0⟩ | ⟨g, cap, cur, h1, _, hh, hle, hmax, hsz, _⟩
  · subst h0
    cases h1
    go_enter Try.func23, Try.ntmps23
    go_wp2
    go_loopw [2] (fun iv wr => iv = .int .i64 0 ∧ Hid (wr = w)) (fun _ _ => 0)
    case atStart => exact ⟨rfl, rfl⟩
    case round =>
      obtain ⟨rfl, hwr⟩ := hrel
      have hwr := hwr.out
      subst hwr
      have s0 : True := trivial
      go_wp2_with (at_builtin; have _t := s0; clear s0; refine wpList_apS (wr.alloc (.cells #[.int .i64 (-7), .int .i64 (-7), .int .i64 (-7), .int .i64 (-7)] 82)) rfl _ _ 24 82 i0 (.agg #[.int .i64 0, .int .i64 0]) 2 16 Try.underlying24 hi hz0 hz1 hz2 rfl (by decide) rfl (.slice none 0 0) 0 _ rfl (World.ownsRow_nil _ _ _ _) ⟨wr.heap.size, 0, none⟩ 2 2 [.int .i64 (-7), .int .i64 (-7), .int .i64 (-7), .int .i64 (-7)] rfl rfl (four_cells wr) (by intro u hu; simp only [List.mem_cons, List.not_mem_nil, or_false] at hu; rcases hu with rfl | rfl | rfl | rfl <;> rfl) (by decide) (by unfold maxLen; omega) (by omega) ?_; intro gx cx w5 hor u5 hO5)
      first | go_end0 | refine bodyPost_ret (results_none rfl _ _ _) rfl ?_
      exact ⟨rfl, grown_trans (World.grownBy_alloc wr _ none) u5⟩
  · cases h1
    go_enter Try.func23, Try.ntmps23
    go_wp2
    go_loopw [2] (fun iv wr => ∃ (i : Nat) (A : Array Value), i ≤ m ∧ iv = .int .i64 i ∧ BxS wr g 82 A ∧ A.size = d * 2 ∧ w.grownBy wr (some g)) (fun iv _ => m - (intOf iv).toNat)
    case atStart => exact ⟨0, cur, Nat.zero_le _, rfl, hh, hsz, World.grownBy.refl _ _⟩
    case round =>
      obtain ⟨i, A, hi9, rfl, hA, hAs, Gr⟩ := hrel
      by_cases hlt : i < m
      · have li : (i : Int) < (m : Int) := by omega
        have c0 : wr.cell? ⟨g, i * 2, none⟩ = some (A[i * 2]'(by omega)) := hA.cell (i * 2) (by omega)
        have f0 := hA.free (i * 2)
        have hA1 := hA.set (i * 2) (.int .i64 (-7))
        have g1 := grown_set wr g (i * 2) (.int .i64 (-7))
        generalize hw1 : wr.setCell ⟨g, i * 2, none⟩ (.int .i64 (-7)) = w1 at hA1 g1
        have c1 : w1.cell? ⟨g, i * 2 + 1, none⟩ = some ((A.set! (i * 2) (.int .i64 (-7)))[i * 2 + 1]'(by simp; omega)) := hA1.cell (i * 2 + 1) (by simp; omega)
        have f1 := hA1.free (i * 2 + 1)
        have hA2 := hA1.set (i * 2 + 1) (.int .i64 (-7))
        have g2 := grown_set w1 g (i * 2 + 1) (.int .i64 (-7))
        generalize hw2 : w1.setCell ⟨g, i * 2 + 1, none⟩ (.int .i64 (-7)) = w2 at hA2 g2
        go_wp2
        go_roundw
        case rel => exact ⟨i + 1, _, by omega, by go_num, hA2, by simp; exact hAs, grown_trans (grown_trans Gr g1) g2⟩
        case measure => simp [intOf] <;> omega
      · obtain rfl : i = m := by omega
        have li : ¬ (i : Int) < (i : Int) := by omega
        have s0 : True := trivial
        go_wp2_with (at_builtin; have _t := s0; clear s0; refine wpList_apS (wr.alloc (.cells #[.int .i64 (-7), .int .i64 (-7), .int .i64 (-7), .int .i64 (-7)] 82)) rfl _ _ 24 82 i0 (.agg #[.int .i64 0, .int .i64 0]) 2 16 Try.underlying24 hi hz0 hz1 hz2 rfl (by decide) rfl (.slice (some ⟨g, 0, none⟩) i d) i _ rfl ((own_bx hA hAs hle hmax).kept (World.grownBy_alloc wr _ none) (.inr (by simp [Value.ownBlock]))) ⟨wr.heap.size, 0, none⟩ 2 2 [.int .i64 (-7), .int .i64 (-7), .int .i64 (-7), .int .i64 (-7)] rfl rfl (four_cells wr) (by intro u hu; simp only [List.mem_cons, List.not_mem_nil, or_false] at hu; rcases hu with rfl | rfl | rfl | rfl <;> rfl) (by decide) (by unfold maxLen; omega) (by omega) ?_; intro gx cx w5 hor u5 hO5)
        first | go_end0 | refine bodyPost_ret (results_none rfl _ _ _) rfl ?_
        exact ⟨rfl, grown_trans (grown_trans Gr (grown_weak (World.grownBy_alloc wr _ none) _)) u5⟩
end

section
section
variable {p : Nat → Prop} {w w' : World} {lo : Nat}
theorem cell_fzD (F : Fz p w w') {a : Addr} (hb : a.block < w.heap.size) (hp : ¬ p a.block) : w'.cell? a = w.cell? a := by
  simp only [World.cell?, F.block _ hb hp]
theorem own_fzD {t : TypeId} {k n : Nat} {v : Value} {ys : List Value} (F : Fz p w w') (h : w.ownsRow 0 t k v n ys) (hn : ∀ z, v.ownBlock = some z → ¬ p z) : w'.ownsRow 0 t k v n ys := by
  refine ⟨h.1, ?_⟩
  rcases h.2 with h1 | ⟨g, cap, cur, h1, h2, h3, h4⟩
  · exact .inl h1
  · exact .inr ⟨g, cap, cur, h1, h2, (F.block g (Array.getElem?_eq_some_iff.1 h3).1 (hn g (by rw [h1]; rfl))).trans h3, h4⟩
theorem Ans.fzD {a : Option Addr} {n c : Nat} {L : List Nat} (h : Ans w lo a n c L) (F : Fz p w w') (hn : ∀ z, (Value.slice a n c).ownBlock = some z → ¬ p z) : Ans w' lo a n c L := ⟨own_fzD F h.own hn, h.byte, h.new⟩
theorem OwGi.fzD {q : Option Addr} {m d : Nat} {G : List (Int × Int)} (h : OwGi w lo q m d G) (F : Fz p w w') (hn : ∀ z, (Value.slice q m d).ownBlock = some z → ¬ p z) : OwGi w' lo q m d G := ⟨own_fzD F h.own hn, h.len, h.new⟩
theorem OwN.fzD {a : Option Addr} {n c : Nat} {xs : List Nx} (h : OwN w lo a n c xs) (F : Fz p w w') (hn : ∀ z, Nbl a n c xs z → ¬ p z) : OwN w' lo a n c xs :=
  ⟨own_fzD F h.own (fun z e => hn z (.inl e)), h.len, h.new, fun x hx => (h.eA x hx).fzD F (fun z e => hn z (.inr ⟨x, hx, .inl e⟩)), fun x hx => (h.eO x hx).fzD F (fun z e => hn z (.inr ⟨x, hx, .inr e⟩)), h.pA, h.pO⟩
theorem Rd.fzD {a : Option Addr} {n c : Nat} {L : List Nat} (h : Rd w a n c L) (F : Fz p w w') (hn : ∀ b, b < w.heap.size → ¬ p b) : Rd w' a n c L :=
  ⟨h.len, h.le, h.max, h.nil, h.byte, fun h0 => by
    obtain ⟨b, off, e, hb, hc⟩ := h.at' h0
    exact ⟨b, off, e, Nat.lt_of_lt_of_le hb F.size, fun i hi => by rw [cell_fzD F hb (hn b hb)]; exact hc i hi⟩⟩
end
theorem Fz.of {p : Nat → Prop} {w w' : World} {r : Option Nat} (h : w.grownBy w' r) (hr : ∀ k, r = some k → p k) : Fz p w w' := (Fz.refl p w).step h (fun k e _ => hr k e)
/-- a row of which some cells are written -/
theorem row_setD {t : TypeId} {k n cap g : Nat} (vs : List Value) : ∀ (o : Nat) (w : World) (X : List Value), w.ownsRow 0 t k (.slice (some ⟨g, 0, none⟩) n cap) n X → o + vs.length ≤ n * k → (w.setCells g o vs).ownsRow 0 t k (.slice (some ⟨g, 0, none⟩) n cap) n (X.take o ++ vs ++ X.drop (o + vs.length)) ∧ w.grownBy (w.setCells g o vs) (some g) := by
  induction vs with
  | nil =>
    intro o w X h ho
    refine ⟨?_, World.grownBy.refl _ _⟩
    rw [List.append_nil, List.length_nil, Nat.add_zero, List.take_append_drop]
    exact h
  | cons v vs ih =>
    intro o w X h ho
    rw [List.length_cons] at ho
    have hX := h.1
    have h1 : (w.setCell ⟨g, o, none⟩ v).ownsRow 0 t k (.slice (some ⟨g, 0, none⟩) n cap) n (X.set o v) := by
      refine ⟨by rw [List.length_set]; exact h.1, ?_⟩
      rcases h.2 with ⟨h1, _⟩ | ⟨g', cap', cur, h1, h2, h3, h4, h5, h6, h7⟩
      · simp at h1
      · simp only [Value.slice.injEq, Option.some.injEq, Addr.mk.injEq] at h1
        obtain ⟨⟨rfl, _⟩, _, rfl⟩ := h1
        refine .inr ⟨g, cap, cur.setIfInBounds o v, rfl, h2, heap_setCell_same w g o _ _ _ h3, h4, h5, by simpa using h6, ?_⟩
        rw [← h7, Array.toList_setIfInBounds, List.take_set]
    obtain ⟨k1, k2⟩ := ih (o + 1) _ _ h1 (by omega)
    refine ⟨?_, grown_trans (grown_set w g o v) k2⟩
    have e : (X.set o v).take (o + 1) ++ vs ++ (X.set o v).drop (o + 1 + vs.length) = X.take o ++ (v :: vs) ++ X.drop (o + (v :: vs).length) := by
      rw [List.drop_set_of_lt (by omega), List.take_add_one, List.take_set_of_le (Nat.le_refl _), List.getElem?_set_self (by omega), List.length_cons, show o + 1 + vs.length = o + (vs.length + 1) by omega]
      simp
    rw [← e]
    exact k1
theorem run_stN (w : World) (g o : Nat) (L : List Value) (hL : L.length = 10) (h1 : ∀ v, v ∈ L → v.oneCell' = true) (hc : ∀ j, j < 10 → (w.cell? ⟨g, o + j, none⟩).isSome = true) (hf : ∀ j, j < 10 → w.frozen? ⟨g, o + j, none⟩ = false) :
    (Instr.storeAt 27 (.pointer (some ⟨g, o, none⟩)) (.agg L.toArray)).run Try.prog w = .ok () (w.setCells g o L) := by
  have hst := run_storeCells_cells (P := Try.prog) g o L 0 w (by simpa [hL] using hc) (by simpa [hL] using hf) h1
  simp only [Nat.add_zero] at hst
  have hinf := Try.info_nt
  cases hq : Try.prog.info? 27 with
  | none => simp [hq] at hinf
  | some i =>
    have hs : 10 = i.size := by simp [hq] at hinf; omega
    simp [Instr.storeAt, Instr.sureAddr, storeVar, sizeOf, typeInfo, hq, Value.cells, ← hs, hL, hst]
/-- a note is stored into a row of them -/
theorem wpList_stNx (w : World) {ops : Array Oper} {rest : List Oper} {o : Oper} {a : Act} {Q : Exit → Act → World → Prop} (hg : o.guard = none) (p x : Operand) (hop : o.op = Op.store 27 p x)
    (g i n cap : Nat) (X L : List Value) (hp : a.eval p = .pointer (some ⟨g, i * 10, none⟩)) (vs : Array Value) (hx : a.eval x = .agg vs) (hvs : vs = L.toArray) (hL : L.length = 10) (he1 : ∀ u, u ∈ L → u.oneCell' = true) (h : w.ownsRow 0 27 10 (.slice (some ⟨g, 0, none⟩) n cap) n X) (hi : i < n)
    (hK : ∀ w', w'.ownsRow 0 27 10 (.slice (some ⟨g, 0, none⟩) n cap) n (X.take (i * 10) ++ L ++ X.drop (i * 10 + 10)) → w.grownBy w' (some g) → wpList Try.prog ops Q rest (a.put o.dst undef) w') :
    wpList Try.prog ops Q (o :: rest) a w := by
  subst hvs
  refine wpList_plain hg fun K hK' => ?_
  obtain ⟨k1, k2⟩ := row_setD L (i * 10) w X h (by omega)
  rw [hL] at k1
  have hst : (Instr.storeAt 27 (.pointer (some ⟨g, i * 10, none⟩)) (.agg L.toArray)).run Try.prog w = .ok () (w.setCells g (i * 10) L) := by
    rcases h.2 with ⟨h1, _⟩ | ⟨g', cap', cur, h1, _, h3, h4, _, h6, _⟩
    · simp at h1
    · simp only [Value.slice.injEq, Option.some.injEq, Addr.mk.injEq] at h1
      obtain ⟨⟨rfl, _⟩, _, rfl⟩ := h1
      refine run_stN w g (i * 10) L hL he1 (fun j hj => ?_) (fun j hj => frozen_of_row w g _ _ _ h3)
      rw [cell_of_row _ _ _ _ _ _ h3, Array.getElem?_eq_getElem (by omega)]
      rfl
  unfold Oper.wp
  simp [execOp, hop, hp, hx, hst, Result.andThen]
  exact hK' _ _ (hK _ k1 k2)
def x7L : List Value := [.int .i64 0, .int .i64 (-7), .string ⟨#[]⟩, .int .i64 0, .int .i64 0, .int .i64 0, .slice none 0 0, .slice none 0 0, .int .i64 0, .int .i64 0]
def x77 : Array Value := #[.int .i64 0, .int .i64 (-7), .string ⟨#[]⟩, .int .i64 0, .int .i64 0, .int .i64 0, .slice none 0 0, .slice none 0 0, .int .i64 0, .int .i64 0, .int .i64 0, .int .i64 (-7), .string ⟨#[]⟩, .int .i64 0, .int .i64 0, .int .i64 0, .slice none 0 0, .slice none 0 0, .int .i64 0, .int .i64 0]
theorem x7L_one : ∀ u, u ∈ x7L → u.oneCell' = true := List.all_eq_true.1 (show x7L.all (·.oneCell') = true from rfl)
theorem x77_one : ∀ u, u ∈ x77.toList → u.oneCell' = true := List.all_eq_true.1 (show x77.toList.all (·.oneCell') = true from rfl)
theorem take_app {X L : List Value} {i n : Nat} (hX : X.length = n * 10) (hi : i < n) (hL : L.length = 10) (j k : Nat) (hj : i + 1 ≤ j) : (X.take (i * 10) ++ L ++ X.drop (i * 10 + 10))[j * 10 + k]? = X[j * 10 + k]? := by
  rw [List.getElem?_append_right (by rw [List.length_append, List.length_take, hL]; omega), List.length_append, List.length_take, hL, List.getElem?_drop]
  congr 1
  omega
set_option maxHeartbeats 16000000 in
theorem overNotes_any (w : World) (lo : Nat) (a : Option Addr) (n c : Nat) (xs : List Nx) (h : OwN w lo a n c xs) (hn : n ≤ 100000) (hd : ∀ x, x ∈ xs → x.da.length ≤ 100000 ∧ x.ga.length ≤ 100000) :
    Calls Try.prog 65 #[.slice a n c] w fun e w' => e = .returned (.tuple #[]) ∧ Fz (Nbl a n c xs) w w' := by
  obtain ⟨i0, hi, hz0, hz1, hz2⟩ := info_parts Try.info_nt3
  have HD9 : Hid _ := hd
  clear hd
  rcases h.own.2 with ⟨h1, h0⟩ | ⟨g, cap, cur, h1, _, hh, hle, hmax, hsz, _⟩
  · subst h0
    cases h1
    go_enter Try.func65, Try.ntmps65
    go_wp2
    go_loopw [2] (fun iv wr => iv = .int .i64 0 ∧ Hid (wr = w)) (fun _ _ => 0)
    case atStart => exact ⟨rfl, rfl⟩
    case round =>
      obtain ⟨rfl, hwr⟩ := hrel
      have hwr := hwr.out
      subst hwr
      have bA := BxS.new wr 27 x77
      have s0 : True := trivial
      go_wp2_with (at_builtin; have _t := s0; clear s0; refine wpList_apS (wr.alloc (.cells x77 27)) rfl _ _ 54 27 i0 _ 10 120 Try.underlying54 hi hz0 hz1 hz2 rfl (by decide) rfl (.slice none 0 0) 0 _ rfl (World.ownsRow_nil _ _ _ _) ⟨wr.heap.size, 0, none⟩ 2 2 x77.toList rfl rfl bA.newsA x77_one (by decide) (by unfold maxLen; omega) (by omega) ?_; intro gx cx w5 hor u5 hO5)
      first | go_end0 | refine bodyPost_ret (results_none rfl _ _ _) rfl ?_
      exact ⟨rfl, Fz.of (grown_trans (World.grownBy_alloc wr _ none) u5) (fun k e => by cases e)⟩
  · cases h1
    have lx := h.len
    have LX : Hid _ := lx
    clear lx
    go_enter Try.func65, Try.ntmps65
    go_wp2
    go_loopw [2] (fun iv wr => ∃ (i : Nat) (X : List Value), i ≤ n ∧ iv = .int .i64 i ∧ wr.ownsRow 0 27 10 (.slice (some ⟨g, 0, none⟩) n c) n X ∧ (∀ j x, i ≤ j → xs[j]? = some x → ∀ k, k < 10 → X[j * 10 + k]? = x.cells[k]?) ∧ (∀ j x, i ≤ j → xs[j]? = some x → Ans wr lo x.a x.da.length x.c x.da ∧ OwGi wr lo x.q x.ga.length x.d x.ga) ∧ Fz (Nbl (some ⟨g, 0, none⟩) n c xs) w wr) (fun iv _ => n - (intOf iv).toNat)
    case atStart => exact ⟨0, flN xs, Nat.zero_le _, rfl, h.own, (fun j x _ hx k hk => flN_at xs j x hx k hk), (fun j x _ hx => ⟨h.eA x (List.mem_of_getElem? hx), h.eO x (List.mem_of_getElem? hx)⟩), Fz.refl _ _⟩
    case round =>
      obtain ⟨i, X, hi9, rfl, hO, hX, hE, hF⟩ := hrel
      by_cases hlt : i < n
      · have li : (i : Int) < (n : Int) := by omega
        obtain ⟨x, hx⟩ : ∃ x, xs[i]? = some x := ⟨xs[i]'(by have := LX.out; omega), List.getElem?_eq_getElem _⟩
        have hmem := List.mem_of_getElem? hx
        obtain ⟨d1, d2⟩ := HD9.out x hmem
        have HX : Hid _ := hX
        have HE : Hid _ := hE
        clear hX hE
        have q6 : wr.cell? ⟨g, i * 10 + 6, none⟩ = some (.slice x.a x.da.length x.c) := by
          have := hO.cells (g := g) rfl (i * 10 + 6) (.slice x.a x.da.length x.c) (HX.out i x (Nat.le_refl _) hx 6 (by decide))
          rw [addr_add, Nat.zero_add] at this
          exact this
        obtain ⟨eA, eO⟩ := HE.out i x (Nat.le_refl _) hx
        obtain ⟨cur2, bg⟩ := own_bxS hO (g := g) rfl
        have HXX : Hid _ := hx
        have HMM : Hid _ := hmem
        clear hx hmem
        refine wp_seq_k fun K1 hK1 => ?_
        have HK1 : Hid _ := hK1
        clear hK1
        go_wp2
        refine HK1.out _ _ ?_
        clear HK1
        refine wp_seq_k fun K2 hK2 => ?_
        have HK2 : Hid _ := hK2
        clear hK2
        refine wp_block ?_
        refine wp_seq_k fun K3 hK3 => ?_
        have HK3 : Hid _ := hK3
        clear hK3
        go_wp2_with (go_at_call 22; refine (spoil_any eA (by omega)).mono ?_; rintro e w1 ⟨rfl, u1⟩)
        refine HK3.out _ _ ?_
        clear HK3
        have ty1 : ∀ z, (Value.slice x.a x.da.length x.c).ownBlock = some z → ∃ cs, BxS wr z 5 cs := fun z e => own_bxS eA.own e
        have hO1 : w1.ownsRow 0 27 10 (.slice (some ⟨g, 0, none⟩) n c) n X := own_fzD (p := fun k => (Value.slice x.a x.da.length x.c).ownBlock = some k) (Fz.of u1 (fun k e => e)) hO (fun z e e2 => by obtain ⟨cs, hb⟩ := ty1 z e2; exact own_ty hO hb (by decide) e)
        have eO1 : OwGi w1 lo x.q x.ga.length x.d x.ga := eO.kR u1 (fun z e => by obtain ⟨cs, hb⟩ := ty1 z e; exact eO.neB hb (by decide))
        have q7 : w1.cell? ⟨g, i * 10 + 7, none⟩ = some (.slice x.q x.ga.length x.d) := by
          have := hO1.cells (g := g) rfl (i * 10 + 7) (.slice x.q x.ga.length x.d) (HX.out i x (Nat.le_refl _) HXX.out 7 (by decide))
          rw [addr_add, Nat.zero_add] at this
          exact this
        clear q6
        refine wp_seq_k fun K4 hK4 => ?_
        have HK4 : Hid _ := hK4
        clear hK4
        go_wp2_with (go_at_call 23; refine (overGi_any w1 lo x.q x.ga.length x.d x.ga eO1 (by omega)).mono ?_; rintro e w2 ⟨rfl, u2⟩)
        refine HK4.out _ _ ?_
        clear HK4
        have ty2 : ∀ z, (Value.slice x.q x.ga.length x.d).ownBlock = some z → ∃ cs, BxS w1 z 82 cs := fun z e => own_bxS eO1.own e
        have hO2 : w2.ownsRow 0 27 10 (.slice (some ⟨g, 0, none⟩) n c) n X := own_fzD (p := fun k => (Value.slice x.q x.ga.length x.d).ownBlock = some k) (Fz.of u2 (fun k e => e)) hO1 (fun z e e2 => by obtain ⟨cs, hb⟩ := ty2 z e2; exact own_ty hO1 hb (by decide) e)
        clear q7
        have s0 : True := trivial
        go_wp2_with (have _t := s0; clear s0; refine wpList_stNx w2 rfl _ _ rfl g i n c X x7L rfl _ rfl rfl rfl x7L_one hO2 hlt ?_; intro w3 hO3 u3)
        try simp only [Exit.inBlock, Exit.then]
        refine HK2.out _ _ ?_
        clear HK2
        have hlX : X.length = n * 10 := hO.1
        have HLX : Hid _ := hlX
        clear hlX
        have hX3 : ∀ j y, i + 1 ≤ j → xs[j]? = some y → ∀ k, k < 10 → (X.take (i * 10) ++ x7L ++ X.drop (i * 10 + 10))[j * 10 + k]? = y.cells[k]? := by
          intro j y hj hy k hk
          rw [take_app HLX.out hlt rfl j k hj]
          exact HX.out j y (by omega) hy k hk
        have hE3 : ∀ j y, i + 1 ≤ j → xs[j]? = some y → Ans w3 lo y.a y.da.length y.c y.da ∧ OwGi w3 lo y.q y.ga.length y.d y.ga := by
          intro j y hj hy
          obtain ⟨k1, k2⟩ := HE.out j y (by omega) hy
          have hjl : j < xs.length := (List.getElem?_eq_some_iff.1 hy).1
          have hil : i < xs.length := by omega
          have ex : xs[i] = x := by have := HXX.out; rw [List.getElem?_eq_getElem hil] at this; exact Option.some.inj this
          have ey : xs[j] = y := by rw [List.getElem?_eq_getElem hjl] at hy; exact Option.some.inj hy
          have pA := List.pairwise_iff_getElem.1 h.pA i j hil hjl (by omega)
          have pO := List.pairwise_iff_getElem.1 h.pO i j hil hjl (by omega)
          rw [ex, ey] at pA pO
          have bg2 : ∃ cs, BxS w2 g 27 cs := own_bxS hO2 rfl
          obtain ⟨cs2, bg2⟩ := bg2
          have m1 := k1.kRR u1 (fun z e => pA z e)
          have m2 := m1.kRR u2 (fun z e e2 => by obtain ⟨cs, hb⟩ := ty2 z e; exact own_ty m1.own hb (by decide) e2)
          have o1 := k2.kR u1 (fun z e => by obtain ⟨cs, hb⟩ := ty1 z e; exact k2.neB hb (by decide))
          have o2 := o1.kR u2 (fun z e => pO z e)
          exact ⟨m2.kRR u3 (fun z e e2 => by have e := Option.some.inj e; subst e; exact own_ty m2.own bg2 (by decide) e2), o2.kR u3 (fun z e => by have e := Option.some.inj e; subst e; exact o2.neB bg2 (by decide))⟩
        have hF3 : Fz (Nbl (some ⟨g, 0, none⟩) n c xs) w w3 := ((hF.step u1 (fun k e _ => .inr ⟨x, HMM.out, .inl e⟩)).step u2 (fun k e _ => .inr ⟨x, HMM.out, .inr e⟩)).step u3 (fun k e _ => .inl e)
        have HF3 : Hid _ := hF3
        have HE3 : Hid _ := hE3
        have HX3 : Hid _ := hX3
        clear hF3 hE3 hX3
        go_wp2
        go_roundw
        case rel => exact ⟨i + 1, _, by omega, by go_num, hO3, HX3.out, HE3.out, HF3.out⟩
        case measure => simp [intOf] <;> omega
      · obtain rfl : i = n := by omega
        have li : ¬ (i : Int) < (i : Int) := by omega
        have bA := BxS.new wr 27 x77
        have s0 : True := trivial
        go_wp2_with (at_builtin; have _t := s0; clear s0; refine wpList_apS (wr.alloc (.cells x77 27)) rfl _ _ 54 27 i0 _ 10 120 Try.underlying54 hi hz0 hz1 hz2 rfl (by decide) rfl (.slice (some ⟨g, 0, none⟩) i c) i _ rfl (hO.kept (World.grownBy_alloc wr _ none) (.inr (by simp [Value.ownBlock]))) ⟨wr.heap.size, 0, none⟩ 2 2 x77.toList rfl rfl bA.newsA x77_one (by decide) (by unfold maxLen; omega) (by omega) ?_; intro gx cx w5 hor u5 hO5)
        first | go_end0 | refine bodyPost_ret (results_none rfl _ _ _) rfl ?_
        exact ⟨rfl, (hF.step (World.grownBy_alloc wr _ none) (fun k e _ => by cases e)).step u5 (fun k e _ => .inl e)⟩
end

section
theorem tab_giF (G : List (Int × Int)) : tabG (giF G) G.length = G := by
  unfold tabG giF
  refine List.ext_getElem (by simp) (fun i h1 h2 => ?_)
  simp [h2]
end

section
/-- a giver at work, as data -/
def GA (wB w : World) (gw : Nat) (V : Gv) (T : List Nt) : Prop :=
  ∃ a c q d na nc xs, xs.map Nx.dt = T ∧ GW wB w gw V.id V.nm V.mo V.bu V.st V.fi V.at' V.ti V.pa V.tr V.li a V.L.length c V.L q V.G.length d V.G na xs.length nc xs
theorem GA.of {wB w : World} {gw : Nat} {V : Gv} {a : Option Addr} {n c : Nat} {q : Option Addr} {m d : Nat} {na : Option Addr} {nn nc : Nat} {xs : List Nx} {T : List Nt} (hT : xs.map Nx.dt = T) (h : GW wB w gw V.id V.nm V.mo V.bu V.st V.fi V.at' V.ti V.pa V.tr V.li a n c V.L q m d V.G na nn nc xs) : GA wB w gw V T := by
  have e1 := h.A.len
  have e2 := h.O.len
  have e3 := h.N.len
  subst e1 e2 e3
  exact ⟨a, c, q, d, na, nc, xs, hT, h⟩
theorem map_one {xs : List Nx} {T : List Nt} (hT : xs.map Nx.dt = T) (x : Nx) (t : Nt) (h : x.dt = t) : (xs ++ [x]).map Nx.dt = T ++ [t] := by
  rw [List.map_append, hT]; show T ++ [x.dt] = _; rw [h]
end

section
section
variable {wB w w' w1 w2 : World} {gw : Nat} {id : Int} {nm : ByteArray} {mo bu st : Int} {fi : Bool} {at' ti pa tr li : Int} {a : Option Addr} {n c : Nat} {L : List Nat} {q : Option Addr} {m d : Nat} {G : List (Int × Int)} {na : Option Addr} {nn nc : Nat} {xs : List Nx}
theorem OwGi.head {lo g cap : Nat} {x y e : Int} {cur : Array Value} (h : OwGi w lo (some ⟨g, 0, none⟩) n cap ((x, y) :: G)) (hb : BxS w g 82 cur) (hb' : BxS w' g 82 (cur.setIfInBounds 0 (.int .i64 e))) : OwGi w' lo (some ⟨g, 0, none⟩) n cap ((e, y) :: G) := by
  have hl := h.len
  have hl2 : ((e, y) :: G).length = n := hl
  refine ⟨?_, hl2, h.new⟩
  rw [← flP_flG _ n hl2]
  refine ⟨by rw [flP_len]; omega, ?_⟩
  rcases h.ownP.2 with ⟨h1, _⟩ | ⟨g', cap', cur', h1, h2, h3, h4, h5, h6, h7⟩
  · simp at h1
  · simp only [Value.slice.injEq, Option.some.injEq, Addr.mk.injEq] at h1
    obtain ⟨⟨rfl, _⟩, _, rfl⟩ := h1
    have e1 : cur' = cur := by
      have hb : w.heap[g]? = some (.cells cur 82) := hb
      rw [h3] at hb
      injection hb with hb
      injection hb
    subst e1
    refine .inr ⟨g, cap, _, rfl, h2, hb', h4, h5, by simpa using h6, ?_⟩
    rw [Array.toList_setIfInBounds, List.take_set, h7]
    rfl
end
end

section
theorem wpAnyZ_skipD {P : Program} {ops : Array Oper} {Q : Exit → Act → World → Prop} {md : Region.Mode} {S : World → Prop} {Z : List Nat} (C : List Nat) (i : Nat) {oi : Oper} {fuel : Nat} {listed : Array Bool} {a : Act} {w : World} (hi : ops[i]? = some oi)
    (hs : ((Z.all fun z => C.contains z) && Region.noSelect ops && Region.free md ops listed i && (Region.ready md ops listed).contains i && waitZ md ops listed i C) = true)
    (hQ : ∀ c a w, Q (.panic c) (a.put oi.dst undef) w → Q (.panic c) a w) (hS : S w) (hw : Region.wanted oi (yielded ops a.tmps) = false)
    (h : wpAnyZ P md ops Q S Z fuel (listed.setIfInBounds i true) (a.put oi.dst undef) w) : wpAnyZ P md ops Q S Z (fuel + 1) listed a w := by
  simp only [Bool.and_eq_true, List.contains_iff_mem, List.all_eq_true] at hs
  exact wpAnyZ_first hs.1.1.1.1 hi (Region.noSelect_spec hs.1.1.1.2) hQ fuel listed a w (Region.free_spec hi hs.1.1.2) hs.1.2 hs.2 (.inr ⟨hw, rfl⟩) hS h
theorem GA.keepN {wB w w' : World} {gw : Nat} {V : Gv} {T : List Nt} (h : GA wB w gw V T) (u : w.grownBy w' none) : GA wB w' gw V T := by
  obtain ⟨a, c, q, d, na, nc, xs, hT, h⟩ := h
  exact ⟨a, c, q, d, na, nc, xs, hT, GW.keepN h u⟩
end
end Go.Proofs.Ytnimehkfnpepfaa
