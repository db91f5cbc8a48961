import Derived.Test.YtnimehkfnpepfaaRp17
import Derived.Test.YtnimehkfnpepfaaRp7
import Derived.Test.YtnimehkfnpepfaaRp9
namespace Go.Proofs.Ytnimehkfnpepfaa
open Go.RowKit
set_option maxRecDepth 100000
set_option linter.unusedVariables false
set_option linter.unusedSimpArgs false

section
section
variable {p : Nat → Prop} {w w' : World} {lo : Nat}
theorem cell_fzD (F : Fz p w w') {a : Addr} (hb : a.block < w.heap.size) (hp : ¬ p a.block) : w'.cell? a = w.cell? a := by
  simp only [World.cell?, F.block _ hb hp]
theorem own_fzD {t : TypeId} {k n : Nat} {v : Value} {ys : List Value} (F : Fz p w w') (h : w.ownsRow 0 t k v n ys) (hn : ∀ z, v.ownBlock = some z → ¬ p z) : w'.ownsRow 0 t k v n ys := by
  refine ⟨h.1, ?_⟩
  rcases h.2 with h1 | ⟨g, cap, cur, h1, h2, h3, h4⟩
  · exact .inl h1
  · exact .inr ⟨g, cap, cur, h1, h2, (F.block g (Array.getElem?_eq_some_iff.1 h3).1 (hn g (by rw [h1]; rfl))).trans h3, h4⟩
theorem Ans.fzD {a : Option Addr} {n c : Nat} {L : List Nat} (h : Ans w lo a n c L) (F : Fz p w w') (hn : ∀ z, (Value.slice a n c).ownBlock = some z → ¬ p z) : Ans w' lo a n c L := ⟨own_fzD F h.own hn, h.byte, h.new⟩
theorem OwGi.fzD {q : Option Addr} {m d : Nat} {G : List (Int × Int)} (h : OwGi w lo q m d G) (F : Fz p w w') (hn : ∀ z, (Value.slice q m d).ownBlock = some z → ¬ p z) : OwGi w' lo q m d G := ⟨own_fzD F h.own hn, h.len, h.new⟩
theorem OwN.fzD {a : Option Addr} {n c : Nat} {xs : List Nx} (h : OwN w lo a n c xs) (F : Fz p w w') (hn : ∀ z, Nbl a n c xs z → ¬ p z) : OwN w' lo a n c xs :=
  ⟨own_fzD F h.own (fun z e => hn z (.inl e)), h.len, h.new, fun x hx => (h.eA x hx).fzD F (fun z e => hn z (.inr ⟨x, hx, .inl e⟩)), fun x hx => (h.eO x hx).fzD F (fun z e => hn z (.inr ⟨x, hx, .inr e⟩)), h.pA, h.pO⟩
theorem Rd.fzD {a : Option Addr} {n c : Nat} {L : List Nat} (h : Rd w a n c L) (F : Fz p w w') (hn : ∀ b, b < w.heap.size → ¬ p b) : Rd w' a n c L :=
  ⟨h.len, h.le, h.max, h.nil, h.byte, fun h0 => by
    obtain ⟨b, off, e, hb, hc⟩ := h.at' h0
    exact ⟨b, off, e, Nat.lt_of_lt_of_le hb F.size, fun i hi => by rw [cell_fzD F hb (hn b hb)]; exact hc i hi⟩⟩
end
theorem Fz.of {p : Nat → Prop} {w w' : World} {r : Option Nat} (h : w.grownBy w' r) (hr : ∀ k, r = some k → p k) : Fz p w w' := (Fz.refl p w).step h (fun k e _ => hr k e)
/-- a row of which some cells are written -/
theorem row_setD {t : TypeId} {k n cap g : Nat} (vs : List Value) : ∀ (o : Nat) (w : World) (X : List Value), w.ownsRow 0 t k (.slice (some ⟨g, 0, none⟩) n cap) n X → o + vs.length ≤ n * k → (w.setCells g o vs).ownsRow 0 t k (.slice (some ⟨g, 0, none⟩) n cap) n (X.take o ++ vs ++ X.drop (o + vs.length)) ∧ w.grownBy (w.setCells g o vs) (some g) := by
  induction vs with
  | nil =>
    intro o w X h ho
    refine ⟨?_, World.grownBy.refl _ _⟩
    rw [List.append_nil, List.length_nil, Nat.add_zero, List.take_append_drop]
    exact h
  | cons v vs ih =>
    intro o w X h ho
    rw [List.length_cons] at ho
    have hX := h.1
    have h1 : (w.setCell ⟨g, o, none⟩ v).ownsRow 0 t k (.slice (some ⟨g, 0, none⟩) n cap) n (X.set o v) := by
      refine ⟨by rw [List.length_set]; exact h.1, ?_⟩
      rcases h.2 with ⟨h1, _⟩ | ⟨g', cap', cur, h1, h2, h3, h4, h5, h6, h7⟩
      · simp at h1
      · simp only [Value.slice.injEq, Option.some.injEq, Addr.mk.injEq] at h1
        obtain ⟨⟨rfl, _⟩, _, rfl⟩ := h1
        refine .inr ⟨g, cap, cur.setIfInBounds o v, rfl, h2, heap_setCell_same w g o _ _ _ h3, h4, h5, by simpa using h6, ?_⟩
        rw [← h7, Array.toList_setIfInBounds, List.take_set]
    obtain ⟨k1, k2⟩ := ih (o + 1) _ _ h1 (by omega)
    refine ⟨?_, grown_trans (grown_set w g o v) k2⟩
    have e : (X.set o v).take (o + 1) ++ vs ++ (X.set o v).drop (o + 1 + vs.length) = X.take o ++ (v :: vs) ++ X.drop (o + (v :: vs).length) := by
      rw [List.drop_set_of_lt (by omega), List.take_add_one, List.take_set_of_le (Nat.le_refl _), List.getElem?_set_self (by omega), List.length_cons, show o + 1 + vs.length = o + (vs.length + 1) by omega]
      simp
    rw [← e]
    exact k1
theorem run_stN (w : World) (g o : Nat) (L : List Value) (hL : L.length = 10) (h1 : ∀ v, v ∈ L → v.oneCell' = true) (hc : ∀ j, j < 10 → (w.cell? ⟨g, o + j, none⟩).isSome = true) (hf : ∀ j, j < 10 → w.frozen? ⟨g, o + j, none⟩ = false) :
    (Instr.storeAt 27 (.pointer (some ⟨g, o, none⟩)) (.agg L.toArray)).run Try.prog w = .ok () (w.setCells g o L) := by
  have hst := run_storeCells_cells (P := Try.prog) g o L 0 w (by simpa [hL] using hc) (by simpa [hL] using hf) h1
  simp only [Nat.add_zero] at hst
  have hinf := Try.info_nt
  cases hq : Try.prog.info? 27 with
  | none => simp [hq] at hinf
  | some i =>
    have hs : 10 = i.size := by simp [hq] at hinf; omega
    simp [Instr.storeAt, Instr.sureAddr, storeVar, sizeOf, typeInfo, hq, Value.cells, ← hs, hL, hst]
/-- a note is stored into a row of them -/
theorem wpList_stNx (w : World) {ops : Array Oper} {rest : List Oper} {o : Oper} {a : Act} {Q : Exit → Act → World → Prop} (hg : o.guard = none) (p x : Operand) (hop : o.op = Op.store 27 p x)
    (g i n cap : Nat) (X L : List Value) (hp : a.eval p = .pointer (some ⟨g, i * 10, none⟩)) (vs : Array Value) (hx : a.eval x = .agg vs) (hvs : vs = L.toArray) (hL : L.length = 10) (he1 : ∀ u, u ∈ L → u.oneCell' = true) (h : w.ownsRow 0 27 10 (.slice (some ⟨g, 0, none⟩) n cap) n X) (hi : i < n)
    (hK : ∀ w', w'.ownsRow 0 27 10 (.slice (some ⟨g, 0, none⟩) n cap) n (X.take (i * 10) ++ L ++ X.drop (i * 10 + 10)) → w.grownBy w' (some g) → wpList Try.prog ops Q rest (a.put o.dst undef) w') :
    wpList Try.prog ops Q (o :: rest) a w := by
  subst hvs
  refine wpList_plain hg fun K hK' => ?_
  obtain ⟨k1, k2⟩ := row_setD L (i * 10) w X h (by omega)
  rw [hL] at k1
  have hst : (Instr.storeAt 27 (.pointer (some ⟨g, i * 10, none⟩)) (.agg L.toArray)).run Try.prog w = .ok () (w.setCells g (i * 10) L) := by
    rcases h.2 with ⟨h1, _⟩ | ⟨g', cap', cur, h1, _, h3, h4, _, h6, _⟩
    · simp at h1
    · simp only [Value.slice.injEq, Option.some.injEq, Addr.mk.injEq] at h1
      obtain ⟨⟨rfl, _⟩, _, rfl⟩ := h1
      refine run_stN w g (i * 10) L hL he1 (fun j hj => ?_) (fun j hj => frozen_of_row w g _ _ _ h3)
      rw [cell_of_row _ _ _ _ _ _ h3, Array.getElem?_eq_getElem (by omega)]
      rfl
  unfold Oper.wp
  simp [execOp, hop, hp, hx, hst, Result.andThen]
  exact hK' _ _ (hK _ k1 k2)
def x7L : List Value := [.int .i64 0, .int .i64 (-7), .string ⟨#[]⟩, .int .i64 0, .int .i64 0, .int .i64 0, .slice none 0 0, .slice none 0 0, .int .i64 0, .int .i64 0]
def x77 : Array Value := #[.int .i64 0, .int .i64 (-7), .string ⟨#[]⟩, .int .i64 0, .int .i64 0, .int .i64 0, .slice none 0 0, .slice none 0 0, .int .i64 0, .int .i64 0, .int .i64 0, .int .i64 (-7), .string ⟨#[]⟩, .int .i64 0, .int .i64 0, .int .i64 0, .slice none 0 0, .slice none 0 0, .int .i64 0, .int .i64 0]
theorem x7L_one : ∀ u, u ∈ x7L → u.oneCell' = true := List.all_eq_true.1 (show x7L.all (·.oneCell') = true from rfl)
theorem x77_one : ∀ u, u ∈ x77.toList → u.oneCell' = true := List.all_eq_true.1 (show x77.toList.all (·.oneCell') = true from rfl)
theorem take_app {X L : List Value} {i n : Nat} (hX : X.length = n * 10) (hi : i < n) (hL : L.length = 10) (j k : Nat) (hj : i + 1 ≤ j) : (X.take (i * 10) ++ L ++ X.drop (i * 10 + 10))[j * 10 + k]? = X[j * 10 + k]? := by
  rw [List.getElem?_append_right (by rw [List.length_append, List.length_take, hL]; omega), List.length_append, List.length_take, hL, List.getElem?_drop]
  congr 1
  omega
set_option maxHeartbeats 16000000 in
theorem overNotes_any (w : World) (lo : Nat) (a : Option Addr) (n c : Nat) (xs : List Nx) (h : OwN w lo a n c xs) (hn : n ≤ 100000) (hd : ∀ x, x ∈ xs → x.da.length ≤ 100000 ∧ x.ga.length ≤ 100000) :
    Calls Try.prog 65 #[.slice a n c] w fun e w' => e = .returned (.tuple #[]) ∧ Fz (Nbl a n c xs) w w' := by
  obtain ⟨i0, hi, hz0, hz1, hz2⟩ := info_parts Try.info_nt3
  have HD9 : Hid _ := hd
  clear hd
  rcases h.own.2 with ⟨h1, h0⟩ | ⟨g, cap, cur, h1, _, hh, hle, hmax, hsz, _⟩
  · subst h0
    cases h1
    go_enter Try.func65, Try.ntmps65
    go_wp2
    go_loopw [2] (fun iv wr => iv = .int .i64 0 ∧ Hid (wr = w)) (fun _ _ => 0)
    case atStart => exact ⟨rfl, rfl⟩
    case round =>
      obtain ⟨rfl, hwr⟩ := hrel
      have hwr := hwr.out
      subst hwr
      have bA := BxS.new wr 27 x77
      have s0 : True := trivial
      go_wp2_with (at_builtin; have _t := s0; clear s0; refine wpList_apS (wr.alloc (.cells x77 27)) rfl _ _ 54 27 i0 _ 10 120 Try.underlying54 hi hz0 hz1 hz2 rfl (by decide) rfl (.slice none 0 0) 0 _ rfl (World.ownsRow_nil _ _ _ _) ⟨wr.heap.size, 0, none⟩ 2 2 x77.toList rfl rfl bA.newsA x77_one (by decide) (by unfold maxLen; omega) (by omega) ?_; intro gx cx w5 hor u5 hO5)
      first | go_end0 | refine bodyPost_ret (results_none rfl _ _ _) rfl ?_
      exact ⟨rfl, Fz.of (grown_trans (World.grownBy_alloc wr _ none) u5) (fun k e => by cases e)⟩
  · cases h1
    have lx := h.len
    have LX : Hid _ := lx
    clear lx
    go_enter Try.func65, Try.ntmps65
    go_wp2
    go_loopw [2] (fun iv wr => ∃ (i : Nat) (X : List Value), i ≤ n ∧ iv = .int .i64 i ∧ wr.ownsRow 0 27 10 (.slice (some ⟨g, 0, none⟩) n c) n X ∧ (∀ j x, i ≤ j → xs[j]? = some x → ∀ k, k < 10 → X[j * 10 + k]? = x.cells[k]?) ∧ (∀ j x, i ≤ j → xs[j]? = some x → Ans wr lo x.a x.da.length x.c x.da ∧ OwGi wr lo x.q x.ga.length x.d x.ga) ∧ Fz (Nbl (some ⟨g, 0, none⟩) n c xs) w wr) (fun iv _ => n - (intOf iv).toNat)
    case atStart => exact ⟨0, flN xs, Nat.zero_le _, rfl, h.own, (fun j x _ hx k hk => flN_at xs j x hx k hk), (fun j x _ hx => ⟨h.eA x (List.mem_of_getElem? hx), h.eO x (List.mem_of_getElem? hx)⟩), Fz.refl _ _⟩
    case round =>
      obtain ⟨i, X, hi9, rfl, hO, hX, hE, hF⟩ := hrel
      by_cases hlt : i < n
      · have li : (i : Int) < (n : Int) := by omega
        obtain ⟨x, hx⟩ : ∃ x, xs[i]? = some x := ⟨xs[i]'(by have := LX.out; omega), List.getElem?_eq_getElem _⟩
        have hmem := List.mem_of_getElem? hx
        obtain ⟨d1, d2⟩ := HD9.out x hmem
        have HX : Hid _ := hX
        have HE : Hid _ := hE
        clear hX hE
        have q6 : wr.cell? ⟨g, i * 10 + 6, none⟩ = some (.slice x.a x.da.length x.c) := by
          have := hO.cells (g := g) rfl (i * 10 + 6) (.slice x.a x.da.length x.c) (HX.out i x (Nat.le_refl _) hx 6 (by decide))
          rw [addr_add, Nat.zero_add] at this
          exact this
        obtain ⟨eA, eO⟩ := HE.out i x (Nat.le_refl _) hx
        obtain ⟨cur2, bg⟩ := own_bxS hO (g := g) rfl
        have HXX : Hid _ := hx
        have HMM : Hid _ := hmem
        clear hx hmem
        refine wp_seq_k fun K1 hK1 => ?_
        have HK1 : Hid _ := hK1
        clear hK1
        go_wp2
        refine HK1.out _ _ ?_
        clear HK1
        refine wp_seq_k fun K2 hK2 => ?_
        have HK2 : Hid _ := hK2
        clear hK2
        refine wp_block ?_
        refine wp_seq_k fun K3 hK3 => ?_
        have HK3 : Hid _ := hK3
        clear hK3
        go_wp2_with (go_at_call 22; refine (spoil_any eA (by omega)).mono ?_; rintro e w1 ⟨rfl, u1⟩)
        refine HK3.out _ _ ?_
        clear HK3
        have ty1 : ∀ z, (Value.slice x.a x.da.length x.c).ownBlock = some z → ∃ cs, BxS wr z 5 cs := fun z e => own_bxS eA.own e
        have hO1 : w1.ownsRow 0 27 10 (.slice (some ⟨g, 0, none⟩) n c) n X := own_fzD (p := fun k => (Value.slice x.a x.da.length x.c).ownBlock = some k) (Fz.of u1 (fun k e => e)) hO (fun z e e2 => by obtain ⟨cs, hb⟩ := ty1 z e2; exact own_ty hO hb (by decide) e)
        have eO1 : OwGi w1 lo x.q x.ga.length x.d x.ga := eO.kR u1 (fun z e => by obtain ⟨cs, hb⟩ := ty1 z e; exact eO.neB hb (by decide))
        have q7 : w1.cell? ⟨g, i * 10 + 7, none⟩ = some (.slice x.q x.ga.length x.d) := by
          have := hO1.cells (g := g) rfl (i * 10 + 7) (.slice x.q x.ga.length x.d) (HX.out i x (Nat.le_refl _) HXX.out 7 (by decide))
          rw [addr_add, Nat.zero_add] at this
          exact this
        clear q6
        refine wp_seq_k fun K4 hK4 => ?_
        have HK4 : Hid _ := hK4
        clear hK4
        go_wp2_with (go_at_call 23; refine (overGi_any w1 lo x.q x.ga.length x.d x.ga eO1 (by omega)).mono ?_; rintro e w2 ⟨rfl, u2⟩)
        refine HK4.out _ _ ?_
        clear HK4
        have ty2 : ∀ z, (Value.slice x.q x.ga.length x.d).ownBlock = some z → ∃ cs, BxS w1 z 82 cs := fun z e => own_bxS eO1.own e
        have hO2 : w2.ownsRow 0 27 10 (.slice (some ⟨g, 0, none⟩) n c) n X := own_fzD (p := fun k => (Value.slice x.q x.ga.length x.d).ownBlock = some k) (Fz.of u2 (fun k e => e)) hO1 (fun z e e2 => by obtain ⟨cs, hb⟩ := ty2 z e2; exact own_ty hO1 hb (by decide) e)
        clear q7
        have s0 : True := trivial
        go_wp2_with (have _t := s0; clear s0; refine wpList_stNx w2 rfl _ _ rfl g i n c X x7L rfl _ rfl rfl rfl x7L_one hO2 hlt ?_; intro w3 hO3 u3)
        try simp only [Exit.inBlock, Exit.then]
        refine HK2.out _ _ ?_
        clear HK2
        have hlX : X.length = n * 10 := hO.1
        have HLX : Hid _ := hlX
        clear hlX
        have hX3 : ∀ j y, i + 1 ≤ j → xs[j]? = some y → ∀ k, k < 10 → (X.take (i * 10) ++ x7L ++ X.drop (i * 10 + 10))[j * 10 + k]? = y.cells[k]? := by
          intro j y hj hy k hk
          rw [take_app HLX.out hlt rfl j k hj]
          exact HX.out j y (by omega) hy k hk
        have hE3 : ∀ j y, i + 1 ≤ j → xs[j]? = some y → Ans w3 lo y.a y.da.length y.c y.da ∧ OwGi w3 lo y.q y.ga.length y.d y.ga := by
          intro j y hj hy
          obtain ⟨k1, k2⟩ := HE.out j y (by omega) hy
          have hjl : j < xs.length := (List.getElem?_eq_some_iff.1 hy).1
          have hil : i < xs.length := by omega
          have ex : xs[i] = x := by have := HXX.out; rw [List.getElem?_eq_getElem hil] at this; exact Option.some.inj this
          have ey : xs[j] = y := by rw [List.getElem?_eq_getElem hjl] at hy; exact Option.some.inj hy
          have pA := List.pairwise_iff_getElem.1 h.pA i j hil hjl (by omega)
          have pO := List.pairwise_iff_getElem.1 h.pO i j hil hjl (by omega)
          rw [ex, ey] at pA pO
          have bg2 : ∃ cs, BxS w2 g 27 cs := own_bxS hO2 rfl
          obtain ⟨cs2, bg2⟩ := bg2
          have m1 := k1.kRR u1 (fun z e => pA z e)
          have m2 := m1.kRR u2 (fun z e e2 => by obtain ⟨cs, hb⟩ := ty2 z e; exact own_ty m1.own hb (by decide) e2)
          have o1 := k2.kR u1 (fun z e => by obtain ⟨cs, hb⟩ := ty1 z e; exact k2.neB hb (by decide))
          have o2 := o1.kR u2 (fun z e => pO z e)
          exact ⟨m2.kRR u3 (fun z e e2 => by have e := Option.some.inj e; subst e; exact own_ty m2.own bg2 (by decide) e2), o2.kR u3 (fun z e => by have e := Option.some.inj e; subst e; exact o2.neB bg2 (by decide))⟩
        have hF3 : Fz (Nbl (some ⟨g, 0, none⟩) n c xs) w w3 := ((hF.step u1 (fun k e _ => .inr ⟨x, HMM.out, .inl e⟩)).step u2 (fun k e _ => .inr ⟨x, HMM.out, .inr e⟩)).step u3 (fun k e _ => .inl e)
        have HF3 : Hid _ := hF3
        have HE3 : Hid _ := hE3
        have HX3 : Hid _ := hX3
        clear hF3 hE3 hX3
        go_wp2
        go_roundw
        case rel => exact ⟨i + 1, _, by omega, by go_num, hO3, HX3.out, HE3.out, HF3.out⟩
        case measure => simp [intOf] <;> omega
      · obtain rfl : i = n := by omega
        have li : ¬ (i : Int) < (i : Int) := by omega
        have bA := BxS.new wr 27 x77
        have s0 : True := trivial
        go_wp2_with (at_builtin; have _t := s0; clear s0; refine wpList_apS (wr.alloc (.cells x77 27)) rfl _ _ 54 27 i0 _ 10 120 Try.underlying54 hi hz0 hz1 hz2 rfl (by decide) rfl (.slice (some ⟨g, 0, none⟩) i c) i _ rfl (hO.kept (World.grownBy_alloc wr _ none) (.inr (by simp [Value.ownBlock]))) ⟨wr.heap.size, 0, none⟩ 2 2 x77.toList rfl rfl bA.newsA x77_one (by decide) (by unfold maxLen; omega) (by omega) ?_; intro gx cx w5 hor u5 hO5)
        first | go_end0 | refine bodyPost_ret (results_none rfl _ _ _) rfl ?_
        exact ⟨rfl, (hF.step (World.grownBy_alloc wr _ none) (fun k e _ => by cases e)).step u5 (fun k e _ => .inl e)⟩
end

section
/-- an answer of a giver, what goes as data -/
def RT (w : World) (V : Gv) (T : List Nt) (E : Nat) (e : Ending) (w' : World) : Prop :=
  ∃ a c q d na nc xs, e = .returned (.tuple #[.agg (gvA V.id V.nm (.slice a V.L.length c) V.mo V.bu V.st V.fi V.at' (.slice q V.G.length d) V.ti V.pa V.tr V.li), .slice na T.length nc, .int .i64 (E : Nat)]) ∧ xs.map Nx.dt = T ∧ Ans w' w.heap.size a V.L.length c V.L ∧ OwGi w' w.heap.size q V.G.length d V.G ∧ OwN w' w.heap.size na T.length nc xs ∧ (∀ z, (Value.slice a V.L.length c).ownBlock = some z → ¬ Nbl na T.length nc xs z) ∧ (∀ z, (Value.slice q V.G.length d).ownBlock = some z → ¬ Nbl na T.length nc xs z) ∧ w.grownBy w' none
theorem RV.rt {w : World} {V : Gv} {xs : List Nx} {E : Nat} {e : Ending} {w' : World} (h : RV w (V, xs, E) e w') : RT w V (xs.map Nx.dt) E e w' := by
  obtain ⟨a, c, q, d, na, nc, h1, h2, h3, h4, h5, h6, h7⟩ := h
  have hl : (xs.map Nx.dt).length = xs.length := List.length_map ..
  refine ⟨a, c, q, d, na, nc, xs, ?_, rfl, h2, h3, ?_, ?_, ?_, h7⟩
  · rw [hl]; exact h1
  · rw [hl]; exact h4
  · rw [hl]; exact h5
  · rw [hl]; exact h6
theorem tab_giF (G : List (Int × Int)) : tabG (giF G) G.length = G := by
  unfold tabG giF
  refine List.ext_getElem (by simp) (fun i h1 h2 => ?_)
  simp [h2]

set_option maxHeartbeats 64000000 in
theorem giverAs_reply (V W : Gv) (T : List Nt) (E : Nat) (a0 q0 aW qW na : Option Addr) (c0 d0 cW dW nc lo : Nat) (xsN : List Nx) (w : World) (gc : Nat) (I : World → Prop) (hI : ∀ a b, I a → a.grownBy b none → I b) (hI0 : I w)
    (hC : ∀ wz a c q d, I wz → Rd wz a V.L.length c V.L → RdG wz q V.G.length d (giF V.G) → Calls Try.prog 34 #[.agg (gvA V.id V.nm (.slice a V.L.length c) V.mo V.bu V.st V.fi V.at' (.slice q V.G.length d) V.ti V.pa V.tr V.li), .pointer (some ⟨gc, 0, none⟩)] wz fun e w' => RT wz W T E e w')
    (hL0 : Rd w a0 V.L.length c0 V.L) (hG0 : RdG w q0 V.G.length d0 (giF V.G)) (hLW : Rd w aW W.L.length cW W.L) (hGW : RdG w qW W.G.length dW (giF W.G)) (hN : OwN w lo na T.length nc xsN) (hT : xsN.map Nx.dt = T)
    (bV1 : V.L.length ≤ 140737488351232) (bV2 : V.G.length ≤ 8796093021952) (bW1 : W.L.length ≤ 140737488351232) (bW2 : W.G.length ≤ 8796093021952) (bT : T.length ≤ 100000) (bT2 : ∀ t, t ∈ T → t.da.length ≤ 100000 ∧ t.ga.length ≤ 100000) :
    Calls Try.prog 31 #[.func (.func 34) #[] #[.pointer (some ⟨gc, 0, none⟩)], .agg (gvA V.id V.nm (.slice a0 V.L.length c0) V.mo V.bu V.st V.fi V.at' (.slice q0 V.G.length d0) V.ti V.pa V.tr V.li), .agg (gvA W.id W.nm (.slice aW W.L.length cW) W.mo W.bu W.st W.fi W.at' (.slice qW W.G.length dW) W.ti W.pa W.tr W.li), .slice na T.length nc, .int .i64 (E : Nat)] w fun e w' => e = .returned (.bool true) ∧ w.grownBy w' none := by
  have i13 := Try.info_gv
  have HT : Hid _ := hT
  have HT2 : Hid _ := bT2
  clear hT bT2
  have b6 := BxS.new w 44 #[.int .i64 V.id, .string V.nm, .slice a0 V.L.length c0, .int .i64 V.mo, .int .i64 V.bu, .int .i64 V.st, .bool V.fi, .int .i64 V.at', .slice q0 V.G.length d0, .int .i64 V.ti, .int .i64 V.pa, .int .i64 V.tr, .int .i64 V.li]
  have g6 := World.grownBy_alloc w (.cells #[.int .i64 V.id, .string V.nm, .slice a0 V.L.length c0, .int .i64 V.mo, .int .i64 V.bu, .int .i64 V.st, .bool V.fi, .int .i64 V.at', .slice q0 V.G.length d0, .int .i64 V.ti, .int .i64 V.pa, .int .i64 V.tr, .int .i64 V.li] 44) none
  generalize hw1 : w.alloc (.cells #[.int .i64 V.id, .string V.nm, .slice a0 V.L.length c0, .int .i64 V.mo, .int .i64 V.bu, .int .i64 V.st, .bool V.fi, .int .i64 V.at', .slice q0 V.G.length d0, .int .i64 V.ti, .int .i64 V.pa, .int .i64 V.tr, .int .i64 V.li] 44) = w1 at b6 g6
  have hz1 : w1.heap.size = w.heap.size + 1 := by rw [← hw1]; simp
  have b7 := BxS.new w1 44 #[.int .i64 W.id, .string W.nm, .slice aW W.L.length cW, .int .i64 W.mo, .int .i64 W.bu, .int .i64 W.st, .bool W.fi, .int .i64 W.at', .slice qW W.G.length dW, .int .i64 W.ti, .int .i64 W.pa, .int .i64 W.tr, .int .i64 W.li]
  have g7 := World.grownBy_alloc w1 (.cells #[.int .i64 W.id, .string W.nm, .slice aW W.L.length cW, .int .i64 W.mo, .int .i64 W.bu, .int .i64 W.st, .bool W.fi, .int .i64 W.at', .slice qW W.G.length dW, .int .i64 W.ti, .int .i64 W.pa, .int .i64 W.tr, .int .i64 W.li] 44) none
  generalize hw2 : w1.alloc (.cells #[.int .i64 W.id, .string W.nm, .slice aW W.L.length cW, .int .i64 W.mo, .int .i64 W.bu, .int .i64 W.st, .bool W.fi, .int .i64 W.at', .slice qW W.G.length dW, .int .i64 W.ti, .int .i64 W.pa, .int .i64 W.tr, .int .i64 W.li] 44) = w2 at b7 g7
  rw [hz1] at b7
  have b6 := b6.keep g7 (by simp)
  have G2 := grown_trans g6 g7
  have z02 := G2.size
  unfold gvA
  go_enter Try.func31, Try.ntmps31
  refine wp_seq_k fun K1 hK1 => ?_
  have HK1 : Hid _ := hK1
  clear hK1
  go_wp2
  refine HK1.out _ _ ?_
  clear HK1
  clear hw1 hw2 hz1 g6 g7
  refine wp_seq_k fun K2 hK2 => ?_
  have HK2 : Hid _ := hK2
  clear hK2
  have s0 : True := trivial
  go_wp2_with (first
    | (have _t := s0; clear s0; refine wpList_ldX _ rfl _ (.tmp 6) rfl w.heap.size _ rfl b6 Try.underlying44 i13 ?_; have s1 : True := trivial)
    | (go_at_call 60; have _t := s1; clear s1; refine (giverOf_any V.id V.nm a0 V.L.length c0 V.mo V.bu V.st V.fi V.at' q0 V.G.length d0 V.ti V.pa V.tr V.li (giF V.G) V.L w2 (hL0.keep G2) (hG0.keep G2) bV1 bV2).mono ?_; rintro e wcH ⟨aH, cH, qH, dH, rfl, hAH, hOH, yH⟩; rw [tab_giF] at hOH; have zH := yH.size; have bn := BxS.new wcH 44 #[.int .i64 0, .string ⟨#[]⟩, .slice none 0 0, .int .i64 0, .int .i64 0, .int .i64 0, .bool false, .int .i64 0, .slice none 0 0, .int .i64 0, .int .i64 0, .int .i64 0, .int .i64 0]; have gn := World.grownBy_alloc wcH (.cells #[.int .i64 0, .string ⟨#[]⟩, .slice none 0 0, .int .i64 0, .int .i64 0, .int .i64 0, .bool false, .int .i64 0, .slice none 0 0, .int .i64 0, .int .i64 0, .int .i64 0, .int .i64 0] 44) none; generalize hwn : wcH.alloc (.cells #[.int .i64 0, .string ⟨#[]⟩, .slice none 0 0, .int .i64 0, .int .i64 0, .int .i64 0, .bool false, .int .i64 0, .slice none 0 0, .int .i64 0, .int .i64 0, .int .i64 0, .int .i64 0] 44) = wnH at bn gn; have s2 : True := trivial)
    | (have _t := s2; clear s2; refine wpList_stX _ rfl _ (.tmp 11) (.tmp 20) rfl wcH.heap.size _ _ rfl rfl bn i13 rfl (by simp [gvA, Value.oneCell']) ?_; intro wdH b11 uH))
  refine HK2.out _ _ ?_
  clear HK2
  unfold gvA at b11
  have YH : w2.grownBy wdH none := grown_far (grown_trans yH gn) uH (fun z e => by have e := Option.some.inj e; omega)
  have hAH : Ans wdH w2.heap.size aH V.L.length cH V.L := (hAH.keep gn).kRR uH (fun z e e2 => by have e := Option.some.inj e; subst e; exact own_ty (hAH.keep gn).own bn (by decide) e2)
  have hOH : OwGi wdH w2.heap.size qH V.G.length dH V.G := (hOH.keep gn).bx bn (by decide) uH
  obtain ⟨g11, hg11⟩ : ∃ g, wcH.heap.size = g := ⟨_, rfl⟩
  have lg11 : w2.heap.size ≤ g11 := by omega
  have ug11 : g11 < wdH.heap.size := by rw [← hg11]; exact b11.lt
  rw [hg11] at b11 ⊢
  clear hg11 uH bn gn hwn yH zH
  have GH := grown_trans G2 YH
  have b6 := b6.keep YH (by simp)
  have b7 := b7.keep YH (by simp)
  refine wp_seq_k fun K3 hK3 => ?_
  have HK3 : Hid _ := hK3
  clear hK3
  have s0 : True := trivial
  go_wp2_with (first
    | (have _t := s0; clear s0; refine wpList_ldX _ rfl _ (.tmp 11) rfl g11 _ rfl b11 Try.underlying44 i13 ?_; have s1 : True := trivial)
    | (go_at_call 34; have _t := s1; clear s1; refine (hC _ _ _ _ _ (hI _ _ hI0 GH) hAH.rd hOH.rd).mono ?_; rintro e wc1 ⟨a1, c1, q1, d1, na1, nc1, xs1, rfl, hx1, hA1, hO1, hN1, sA1, sO1, y1⟩; have z1 := y1.size; have bn := BxS.new wc1 44 #[.int .i64 0, .string ⟨#[]⟩, .slice none 0 0, .int .i64 0, .int .i64 0, .int .i64 0, .bool false, .int .i64 0, .slice none 0 0, .int .i64 0, .int .i64 0, .int .i64 0, .int .i64 0]; have gn := World.grownBy_alloc wc1 (.cells #[.int .i64 0, .string ⟨#[]⟩, .slice none 0 0, .int .i64 0, .int .i64 0, .int .i64 0, .bool false, .int .i64 0, .slice none 0 0, .int .i64 0, .int .i64 0, .int .i64 0, .int .i64 0] 44) none; generalize hwn : wc1.alloc (.cells #[.int .i64 0, .string ⟨#[]⟩, .slice none 0 0, .int .i64 0, .int .i64 0, .int .i64 0, .bool false, .int .i64 0, .slice none 0 0, .int .i64 0, .int .i64 0, .int .i64 0, .int .i64 0] 44) = wn1 at bn gn; have s2 : True := trivial)
    | (have _t := s2; clear s2; refine wpList_stX _ rfl _ (.tmp 12) (.tmp 25) rfl wc1.heap.size _ _ rfl rfl bn i13 rfl (by simp [gvA, Value.oneCell']) ?_; intro wd1 b12 u1))
  refine HK3.out _ _ ?_
  clear HK3
  unfold gvA at b12
  have Y1 : wdH.grownBy wd1 none := grown_far (grown_trans y1 gn) u1 (fun z e => by have e := Option.some.inj e; omega)
  have hA1 : Ans wd1 wdH.heap.size a1 W.L.length c1 W.L := (hA1.keep gn).kRR u1 (fun z e e2 => by have e := Option.some.inj e; subst e; exact own_ty (hA1.keep gn).own bn (by decide) e2)
  have hO1 : OwGi wd1 wdH.heap.size q1 W.G.length d1 W.G := (hO1.keep gn).bx bn (by decide) u1
  have hN1 : OwN wd1 wdH.heap.size na1 T.length nc1 xs1 := (hN1.keep gn).bx bn (by decide) (by decide) (by decide) u1
  obtain ⟨g12, hg12⟩ : ∃ g, wc1.heap.size = g := ⟨_, rfl⟩
  have lg12 : wdH.heap.size ≤ g12 := by omega
  have ug12 : g12 < wd1.heap.size := by rw [← hg12]; exact b12.lt
  rw [hg12] at b12 ⊢
  clear hg12 u1 bn gn hwn y1 z1
  have G1 := grown_trans GH Y1
  have b6 := b6.keep Y1 (by simp)
  have b7 := b7.keep Y1 (by simp)
  have b11 := b11.keep Y1 (by simp)
  have iH : ∀ z, (Value.slice aH V.L.length cH).ownBlock = some z ∨ (Value.slice qH V.G.length dH).ownBlock = some z → w2.heap.size ≤ z ∧ z < wdH.heap.size := fun z e => by
    rcases e with e | e
    · exact ⟨hAH.new z e, own_ltN hAH.own e⟩
    · exact ⟨hOH.new z e, hOH.lt e⟩
  have hAH := hAH.keep Y1
  have hOH := hOH.keep Y1
  refine wp_seq_k fun K4 hK4 => ?_
  have HK4 : Hid _ := hK4
  clear hK4
  have s0 : True := trivial
  go_wp2_with (first
    | (have _t := s0; clear s0; refine wpList_ldX _ rfl _ (.tmp 11) rfl g11 _ rfl b11 Try.underlying44 i13 ?_; have s1 : True := trivial)
    | (go_at_call 34; have _t := s1; clear s1; refine (hC _ _ _ _ _ (hI _ _ hI0 G1) hAH.rd hOH.rd).mono ?_; rintro e wc2 ⟨a2, c2, q2, d2, na2, nc2, xs2, rfl, hx2, hA2, hO2, hN2, sA2, sO2, y2⟩; have z2 := y2.size; have bn := BxS.new wc2 44 #[.int .i64 0, .string ⟨#[]⟩, .slice none 0 0, .int .i64 0, .int .i64 0, .int .i64 0, .bool false, .int .i64 0, .slice none 0 0, .int .i64 0, .int .i64 0, .int .i64 0, .int .i64 0]; have gn := World.grownBy_alloc wc2 (.cells #[.int .i64 0, .string ⟨#[]⟩, .slice none 0 0, .int .i64 0, .int .i64 0, .int .i64 0, .bool false, .int .i64 0, .slice none 0 0, .int .i64 0, .int .i64 0, .int .i64 0, .int .i64 0] 44) none; generalize hwn : wc2.alloc (.cells #[.int .i64 0, .string ⟨#[]⟩, .slice none 0 0, .int .i64 0, .int .i64 0, .int .i64 0, .bool false, .int .i64 0, .slice none 0 0, .int .i64 0, .int .i64 0, .int .i64 0, .int .i64 0] 44) = wn2 at bn gn; have s2 : True := trivial)
    | (have _t := s2; clear s2; refine wpList_stX _ rfl _ (.tmp 15) (.tmp 32) rfl wc2.heap.size _ _ rfl rfl bn i13 rfl (by simp [gvA, Value.oneCell']) ?_; intro wd2 b15 u2))
  refine HK4.out _ _ ?_
  clear HK4
  unfold gvA at b15
  have Y2 : wd1.grownBy wd2 none := grown_far (grown_trans y2 gn) u2 (fun z e => by have e := Option.some.inj e; omega)
  have hA2 : Ans wd2 wd1.heap.size a2 W.L.length c2 W.L := (hA2.keep gn).kRR u2 (fun z e e2 => by have e := Option.some.inj e; subst e; exact own_ty (hA2.keep gn).own bn (by decide) e2)
  have hO2 : OwGi wd2 wd1.heap.size q2 W.G.length d2 W.G := (hO2.keep gn).bx bn (by decide) u2
  have hN2 : OwN wd2 wd1.heap.size na2 T.length nc2 xs2 := (hN2.keep gn).bx bn (by decide) (by decide) (by decide) u2
  obtain ⟨g15, hg15⟩ : ∃ g, wc2.heap.size = g := ⟨_, rfl⟩
  have lg15 : wd1.heap.size ≤ g15 := by omega
  have ug15 : g15 < wd2.heap.size := by rw [← hg15]; exact b15.lt
  rw [hg15] at b15 ⊢
  clear hg15 u2 bn gn hwn y2 z2
  have G2' := grown_trans G1 Y2
  have b6 := b6.keep Y2 (by simp)
  have b7 := b7.keep Y2 (by simp)
  have b11 := b11.keep Y2 (by simp)
  have b12 := b12.keep Y2 (by simp)
  have zH1 := Y1.size
  have zHH := YH.size
  have z12 := Y2.size
  have i1 : ∀ z, (Value.slice a1 W.L.length c1).ownBlock = some z ∨ (Value.slice q1 W.G.length d1).ownBlock = some z ∨ Nbl na1 T.length nc1 xs1 z → wdH.heap.size ≤ z ∧ z < wd1.heap.size := fun z e => by
    rcases e with e | e | e
    · exact ⟨hA1.new z e, own_ltN hA1.own e⟩
    · exact ⟨hO1.new z e, hO1.lt e⟩
    · exact ⟨hN1.low e, hN1.lt e⟩
  have hAH := hAH.keep Y2
  have hOH := hOH.keep Y2
  have hA1 := hA1.keep Y2
  have hO1 := hO1.keep Y2
  have hN1 := hN1.keep Y2
  have i2 : ∀ z, (Value.slice a2 W.L.length c2).ownBlock = some z ∨ (Value.slice q2 W.G.length d2).ownBlock = some z ∨ Nbl na2 T.length nc2 xs2 z → wd1.heap.size ≤ z := fun z e => by
    rcases e with e | e | e
    · exact hA2.new z e
    · exact hO2.new z e
    · exact hN2.low e
  have II1 : Hid _ := i1
  have II2 : Hid _ := i2
  have IIH : Hid _ := iH
  have HX1 : Hid _ := hx1
  have HX2 : Hid _ := hx2
  clear i1 i2 iH hx1 hx2
  have hW2 := hLW.keep G2'
  have hGW2 := hGW.keep G2'
  have hN02 := hN.keep G2'
  have hL02 := hL0.keep G2'
  have hG02 := hG0.keep G2'
  refine wp_seq_k fun K5 hK5 => ?_
  have HK5 : Hid _ := hK5
  clear hK5
  obtain ⟨c0, c1, c2, c3, c4, c5, c6, c7, c8, c9, c10, c11, c12⟩ := (b12).cell13
  obtain ⟨d0, d1, d2, d3, d4, d5, d6, d7, d8, d9, d10, d11, d12⟩ := (b7).cell13
  have s0 : True := trivial
  have kS := fun wz (aA aB qA qB : Option Addr) (cA cB dA dB : Nat) (k1 : Rd wz aA W.L.length cA W.L) (k2 : Rd wz aB W.L.length cB W.L) (k3 : RdG wz qA W.G.length dA (giF W.G)) (k4 : RdG wz qB W.G.length dB (giF W.G)) => sameGiver_any W.id W.nm W.mo W.bu W.st W.fi W.at' W.ti W.pa W.tr W.li aA aB qA qB W.L.length cA cB W.G.length dA dB W.L (giF W.G) (giF W.G) wz k1 k2 k3 k4 (fun _ _ => rfl)
  have kV := fun wz (aA aB qA qB : Option Addr) (cA cB dA dB : Nat) (k1 : Rd wz aA V.L.length cA V.L) (k2 : Rd wz aB V.L.length cB V.L) (k3 : RdG wz qA V.G.length dA (giF V.G)) (k4 : RdG wz qB V.G.length dB (giF V.G)) => sameGiver_any V.id V.nm V.mo V.bu V.st V.fi V.at' V.ti V.pa V.tr V.li aA aB qA qB V.L.length cA cB V.G.length dA dB V.L (giF V.G) (giF V.G) wz k1 k2 k3 k4 (fun _ _ => rfl)
  unfold gvA at kS kV
  have KS : Hid _ := kS
  have KV : Hid _ := kV
  clear kS kV
  go_wp2_with (first
    | (go_at_call 28; have _t := s0; clear s0; refine (KS.out _ _ _ _ _ _ _ _ _ hA1.rd hW2 hO1.rd hGW2).mono ?_; rintro e we1 ⟨rfl, e1⟩; clear c0 c1 c2 c3 c4 c5 c6 c7 c8 c9 c10 c11 c12 d0 d1 d2 d3 d4 d5 d6 d7 d8 d9 d10 d11 d12; obtain ⟨c0, c1, c2, c3, c4, c5, c6, c7, c8, c9, c10, c11, c12⟩ := (b15.keep e1 (by simp)).cell13; obtain ⟨d0, d1, d2, d3, d4, d5, d6, d7, d8, d9, d10, d11, d12⟩ := (b7.keep e1 (by simp)).cell13; have s1 : True := trivial)
    | (go_at_call 28; have _t := s1; clear s1; refine (KS.out _ _ _ _ _ _ _ _ _ (hA2.keep e1).rd (hW2.keep e1) (hO2.keep e1).rd (hGW2.keep e1)).mono ?_; rintro e we2 ⟨rfl, e2⟩; have E2 := grown_trans e1 e2; clear c0 c1 c2 c3 c4 c5 c6 c7 c8 c9 c10 c11 c12 d0 d1 d2 d3 d4 d5 d6 d7 d8 d9 d10 d11 d12; obtain ⟨c0, c1, c2, c3, c4, c5, c6, c7, c8, c9, c10, c11, c12⟩ := (b11.keep E2 (by simp)).cell13; obtain ⟨d0, d1, d2, d3, d4, d5, d6, d7, d8, d9, d10, d11, d12⟩ := (b6.keep E2 (by simp)).cell13; have s2 : True := trivial)
    | (go_at_call 28; have _t := s2; clear s2; refine (KV.out _ _ _ _ _ _ _ _ _ (hAH.keep E2).rd (hL02.keep E2) (hOH.keep E2).rd (hG02.keep E2)).mono ?_; rintro e we3 ⟨rfl, e3⟩; have E3 := grown_trans E2 e3; clear c0 c1 c2 c3 c4 c5 c6 c7 c8 c9 c10 c11 c12 d0 d1 d2 d3 d4 d5 d6 d7 d8 d9 d10 d11 d12; have s3 : True := trivial)
    | (go_at_call 64; have _t := s3; clear s3; refine (sameNotes_any na1 na T.length nc1 nc _ _ xs1 xsN _ (hN1.keep E3) (hN02.keep E3) (HX1.out.trans HT.out.symm) bT).mono ?_; rintro e we4 ⟨rfl, e4⟩; have E4 := grown_trans E3 e4; have s4 : True := trivial)
    | (go_at_call 64; have _t := s4; clear s4; refine (sameNotes_any na2 na T.length nc2 nc _ _ xs2 xsN _ (hN2.keep E4) (hN02.keep E4) (HX2.out.trans HT.out.symm) bT).mono ?_; rintro e we5 ⟨rfl, e5⟩; have E5 := grown_trans E4 e5))
  refine HK5.out _ _ ?_
  clear HK5
  have b7 := b7.keep E5 (by simp)
  have b11 := b11.keep E5 (by simp)
  have b12 := b12.keep E5 (by simp)
  have b15 := b15.keep E5 (by simp)
  have G5 := grown_trans G2' E5
  have zE5 := E5.size
  have hA1 := hA1.keep E5
  have hO1 := hO1.keep E5
  have hN1 := hN1.keep E5
  have hA2 := hA2.keep E5
  have hO2 := hO2.keep E5
  have hN2 := hN2.keep E5
  have hAH := hAH.keep E5
  have hOH := hOH.keep E5
  have hN05 := hN.keep G5
  clear e1 e2 e3 e4 e5 E2 E3 E4 hW2 hGW2 hN02 hL02 hG02 b6 KV hL0 hG0
  refine wp_seq_k fun K6 hK6 => ?_
  have HK6 : Hid _ := hK6
  clear hK6
  have s0 : True := trivial
  go_wp2_with (first
    | (have _t := s0; clear s0; refine wpList_ldX _ rfl _ (.tmp 7) rfl (w.heap.size + 1) _ rfl b7 Try.underlying44 i13 ?_; have s1 : True := trivial)
    | (go_at_call 60; have _t := s1; clear s1; refine (giverOf_any W.id W.nm aW W.L.length cW W.mo W.bu W.st W.fi W.at' qW W.G.length dW W.ti W.pa W.tr W.li (giF W.G) W.L we5 (hLW.keep G5) (hGW.keep G5) bW1 bW2).mono ?_; rintro e wcK ⟨aK, cK, qK, dK, rfl, hAK, hOK, yK⟩; rw [tab_giF] at hOK; have zK := yK.size; have bn := BxS.new wcK 44 #[.int .i64 0, .string ⟨#[]⟩, .slice none 0 0, .int .i64 0, .int .i64 0, .int .i64 0, .bool false, .int .i64 0, .slice none 0 0, .int .i64 0, .int .i64 0, .int .i64 0, .int .i64 0]; have gn := World.grownBy_alloc wcK (.cells #[.int .i64 0, .string ⟨#[]⟩, .slice none 0 0, .int .i64 0, .int .i64 0, .int .i64 0, .bool false, .int .i64 0, .slice none 0 0, .int .i64 0, .int .i64 0, .int .i64 0, .int .i64 0] 44) none; generalize hwn : wcK.alloc (.cells #[.int .i64 0, .string ⟨#[]⟩, .slice none 0 0, .int .i64 0, .int .i64 0, .int .i64 0, .bool false, .int .i64 0, .slice none 0 0, .int .i64 0, .int .i64 0, .int .i64 0, .int .i64 0] 44) = wnK at bn gn; have s2 : True := trivial)
    | (have _t := s2; clear s2; refine wpList_stX _ rfl _ (.tmp 18) (.tmp 74) rfl wcK.heap.size _ _ rfl rfl bn i13 rfl (by simp [gvA, Value.oneCell']) ?_; intro wdK b18 uK))
  refine HK6.out _ _ ?_
  clear HK6
  unfold gvA at b18
  have YK : we5.grownBy wdK none := grown_far (grown_trans yK gn) uK (fun z e => by have e := Option.some.inj e; omega)
  have hAK : Ans wdK we5.heap.size aK W.L.length cK W.L := (hAK.keep gn).kRR uK (fun z e e2 => by have e := Option.some.inj e; subst e; exact own_ty (hAK.keep gn).own bn (by decide) e2)
  have hOK : OwGi wdK we5.heap.size qK W.G.length dK W.G := (hOK.keep gn).bx bn (by decide) uK
  obtain ⟨g18, hg18⟩ : ∃ g, wcK.heap.size = g := ⟨_, rfl⟩
  have lg18 : we5.heap.size ≤ g18 := by omega
  rw [hg18] at b18 ⊢
  clear hg18 uK bn gn hwn yK zK b7
  have GK := grown_trans G5 YK
  have b11 := b11.keep YK (by simp)
  have b12 := b12.keep YK (by simp)
  have b15 := b15.keep YK (by simp)
  have hA1 := hA1.keep YK
  have hO1 := hO1.keep YK
  have hN1 := hN1.keep YK
  have hA2 := hA2.keep YK
  have hO2 := hO2.keep YK
  have hN2 := hN2.keep YK
  have hAH := hAH.keep YK
  have hOH := hOH.keep YK
  have hN0K := hN.keep GK
  have zK5 := YK.size
  refine wp_seq_k fun K7 hK7 => ?_
  have HK7 : Hid _ := hK7
  clear hK7
  have x2 : wdK.cell? ⟨g12, 2, none⟩ = some (.slice a1 W.L.length c1) := b12.cell 2 (by show 2 < 13; decide)
  go_wp2_with (go_at_call 22; refine (spoil_any hA1 (by omega)).mono ?_; rintro e wf1 ⟨rfl, f1⟩)
  refine HK7.out _ _ ?_
  clear HK7
  clear x2
  have t1 : ∀ z, (Value.slice a1 W.L.length c1).ownBlock = some z → ∃ cs, BxS wdK z 5 cs := fun z e => own_bxS hA1.own e
  have b12 := b12.keep f1 (fun e => own_ty hA1.own b12 (by decide) e.symm)
  have b11 := b11.keep f1 (fun e => own_ty hA1.own b11 (by decide) e.symm)
  have hO1f := hO1.kR f1 (fun z e => by obtain ⟨cs, hb⟩ := t1 z e; exact hO1.neB hb (by decide))
  refine wp_seq_k fun K8 hK8 => ?_
  have HK8 : Hid _ := hK8
  clear hK8
  have x8 : wf1.cell? ⟨g12, 8, none⟩ = some (.slice q1 W.G.length d1) := b12.cell 8 (by show 8 < 13; decide)
  go_wp2_with (go_at_call 23; refine (overGi_any _ _ _ _ _ _ hO1f (by omega)).mono ?_; rintro e wf2 ⟨rfl, f2⟩)
  refine HK8.out _ _ ?_
  clear HK8
  clear x8
  have t2 : ∀ z, (Value.slice q1 W.G.length d1).ownBlock = some z → ∃ cs, BxS wf1 z 82 cs := fun z e => own_bxS hO1f.own e
  have b11 := b11.keep f2 (fun e => own_ty hO1f.own b11 (by decide) e.symm)
  have hAH1 := hAH.kRR f1 (fun z e e2 => by have h1 := II1.out z (.inl e); have h2 := IIH.out z (.inl e2); omega)
  have hAH2 := hAH1.kRR f2 (fun z e e2 => by obtain ⟨cs, hb⟩ := t2 z e; exact own_ty hAH1.own hb (by decide) e2)
  refine wp_seq_k fun K9 hK9 => ?_
  have HK9 : Hid _ := hK9
  clear hK9
  have x2 : wf2.cell? ⟨g11, 2, none⟩ = some (.slice aH V.L.length cH) := b11.cell 2 (by show 2 < 13; decide)
  go_wp2_with (go_at_call 22; refine (spoil_any hAH2 (by omega)).mono ?_; rintro e wf3 ⟨rfl, f3⟩)
  refine HK9.out _ _ ?_
  clear HK9
  clear x2
  have t3 : ∀ z, (Value.slice aH V.L.length cH).ownBlock = some z → ∃ cs, BxS wf2 z 5 cs := fun z e => own_bxS hAH2.own e
  have b11 := b11.keep f3 (fun e => own_ty hAH2.own b11 (by decide) e.symm)
  have hOH1 := hOH.kR f1 (fun z e => by obtain ⟨cs, hb⟩ := t1 z e; exact hOH.neB hb (by decide))
  have hOH2 := hOH1.kR f2 (fun z e e2 => by have h1 := II1.out z (.inr (.inl e)); have h2 := IIH.out z (.inr e2); omega)
  have hOH3 := hOH2.kR f3 (fun z e => by obtain ⟨cs, hb⟩ := t3 z e; exact hOH2.neB hb (by decide))
  refine wp_seq_k fun K10 hK10 => ?_
  have HK10 : Hid _ := hK10
  clear hK10
  have x8 : wf3.cell? ⟨g11, 8, none⟩ = some (.slice qH V.G.length dH) := b11.cell 8 (by show 8 < 13; decide)
  go_wp2_with (go_at_call 23; refine (overGi_any _ _ _ _ _ _ hOH3 (by omega)).mono ?_; rintro e wf4 ⟨rfl, f4⟩)
  refine HK10.out _ _ ?_
  clear HK10
  clear x8
  have hNf : OwN wf4 wdH.heap.size na1 T.length nc1 xs1 := (((hN1.kR f1 (fun z e => sA1 z e)).kR f2 (fun z e => sO1 z e)).kR f3 (fun z e e2 => by have h1 := II1.out z (.inr (.inr e2)); have h2 := IIH.out z (.inl e); omega)).kR f4 (fun z e e2 => by have h1 := II1.out z (.inr (.inr e2)); have h2 := IIH.out z (.inr e); omega)
  refine wp_seq_k fun K11 hK11 => ?_
  have HK11 : Hid _ := hK11
  clear hK11
  go_wp2_with (go_at_call 65; refine (overNotes_any _ _ _ _ _ _ hNf bT (fun x hx => HT2.out x.dt (by rw [← HX1.out]; exact List.mem_map_of_mem hx))).mono ?_; rintro e wf5 ⟨rfl, f5⟩)
  refine HK11.out _ _ ?_
  clear HK11
  have F : Fz (fun k => w2.heap.size ≤ k ∧ k < wd1.heap.size) wdK wf5 := by
    have F1 : Fz (fun k => w2.heap.size ≤ k ∧ k < wd1.heap.size) wdK wf1 := Fz.of f1 (fun k e => by have h1 := II1.out k (.inl e); omega)
    have F2 := F1.step f2 (fun k e _ => by have h1 := II1.out k (.inr (.inl e)); omega)
    have F3 := F2.step f3 (fun k e _ => by have h1 := IIH.out k (.inl e); omega)
    have F4 := F3.step f4 (fun k e _ => by have h1 := IIH.out k (.inr e); omega)
    exact F4.trans f5 (fun k _ e => by have h1 := II1.out k (.inr (.inr e)); omega)
  have b15 : BxS wf5 g15 44 #[.int .i64 W.id, .string W.nm, .slice a2 W.L.length c2, .int .i64 W.mo, .int .i64 W.bu, .int .i64 W.st, .bool W.fi, .int .i64 W.at', .slice q2 W.G.length d2, .int .i64 W.ti, .int .i64 W.pa, .int .i64 W.tr, .int .i64 W.li] := (F.block g15 b15.lt (by omega)).trans b15
  have b18 : BxS wf5 g18 44 #[.int .i64 W.id, .string W.nm, .slice aK W.L.length cK, .int .i64 W.mo, .int .i64 W.bu, .int .i64 W.st, .bool W.fi, .int .i64 W.at', .slice qK W.G.length dK, .int .i64 W.ti, .int .i64 W.pa, .int .i64 W.tr, .int .i64 W.li] := (F.block g18 b18.lt (by omega)).trans b18
  have hA2 := hA2.fzD F (fun z e => by have h1 := II2.out z (.inl e); omega)
  have hO2 := hO2.fzD F (fun z e => by have h1 := II2.out z (.inr (.inl e)); omega)
  have hN2 := hN2.fzD F (fun z e => by have h1 := II2.out z (.inr (.inr e)); omega)
  have hAK := hAK.fzD F (fun z e => by have h1 := hAK.new z e; omega)
  have hOK := hOK.fzD F (fun z e => by have h1 := hOK.new z e; omega)
  have hN0 := hN0K.fzD F (fun z e => by have h1 := hN.lt e; omega)
  have Gf : w.grownBy wf5 none := Fz.grown GK F (fun i hi => by omega)
  clear F f1 f2 f3 f4 f5 hAH1 hAH2 hOH1 hOH2 hOH3 hNf t1 t2 t3 hO1f hO1 hA1 hN1 hAH hOH b11 b12
  refine wp_seq_k fun K12 hK12 => ?_
  have HK12 : Hid _ := hK12
  clear hK12
  obtain ⟨c0, c1, c2, c3, c4, c5, c6, c7, c8, c9, c10, c11, c12⟩ := (b15).cell13
  obtain ⟨d0, d1, d2, d3, d4, d5, d6, d7, d8, d9, d10, d11, d12⟩ := (b18).cell13
  have s0 : True := trivial
  go_wp2_with (first
    | (go_at_call 28; have _t := s0; clear s0; refine (KS.out _ _ _ _ _ _ _ _ _ hA2.rd hAK.rd hO2.rd hOK.rd).mono ?_; rintro e wg1 ⟨rfl, e1⟩; clear c0 c1 c2 c3 c4 c5 c6 c7 c8 c9 c10 c11 c12 d0 d1 d2 d3 d4 d5 d6 d7 d8 d9 d10 d11 d12; have s1 : True := trivial)
    | (go_at_call 64; have _t := s1; clear s1; refine (sameNotes_any na2 na T.length nc2 nc _ _ xs2 xsN _ (hN2.keep e1) (hN0.keep e1) (HX2.out.trans HT.out.symm) bT).mono ?_; rintro e wg2 ⟨rfl, e2⟩))
  refine HK12.out _ _ ?_
  clear HK12
  go_wp2
  go_ret
  exact ⟨rfl, grown_trans (grown_trans Gf e1) e2⟩
end
end Go.Proofs.Ytnimehkfnpepfaa
