import Derived.Test.YtpenggkefbbopaaDoorSAcc
namespace Go.Proofs.YtpenggkefbbopaaDoor
open Go.RowKit
set_option maxRecDepth 100000
set_option linter.unusedVariables false
set_option linter.unusedSimpArgs false

/-! rows of numbers -/
theorem Tryd.info_int : (Tryd.prog.info? 3).map (fun i => (i.zero, i.size, i.bytes)) = some (some (.int .i64 0), 1, 8) := by kernel_rfl
def ins (L : List Nat) : List Value := L.map fun (n : Nat) => Value.int .i64 (n : Int)
theorem ins_length (L : List Nat) : (ins L).length = L.length := by simp [ins]
theorem nth_ins (L : List Nat) (i : Nat) (hi : i < L.length) : (ins L)[i]? = some (.int .i64 (nth L i : Nat)) := by
  unfold ins nth
  rw [List.getElem?_map, List.getElem?_eq_getElem hi, List.getD_eq_getElem?_getD, List.getElem?_eq_getElem hi]; rfl
structure AnsI (w : World) (lo : Nat) (a : Option Addr) (n cap : Nat) (L : List Nat) : Prop where
  own : w.ownsRow 0 3 1 (.slice a n cap) n (ins L)
  new : ∀ g, (Value.slice a n cap).ownBlock = some g → lo ≤ g
theorem ansI_nil (w : World) (lo : Nat) : AnsI w lo none 0 0 [] := ⟨World.ownsRow_nil _ _ _ _, fun g h => by simp [Value.ownBlock] at h⟩
theorem AnsI.len {w : World} {lo : Nat} {a : Option Addr} {n cap : Nat} {L : List Nat} (h : AnsI w lo a n cap L) : L.length = n := by
  have := h.own.1; rw [ins_length] at this; omega
theorem AnsI.kept {w w' : World} {lo : Nat} {a : Option Addr} {n cap : Nat} {L : List Nat} {r : Option Nat} (h : AnsI w lo a n cap L) (hg : w.grownBy w' r) (hne : (Value.slice a n cap).ownBlock = none ∨ (Value.slice a n cap).ownBlock ≠ r) : AnsI w' lo a n cap L :=
  ⟨h.own.kept hg hne, h.new⟩
theorem AnsI.keep {w w' : World} {lo : Nat} {a : Option Addr} {n cap : Nat} {L : List Nat} (h : AnsI w lo a n cap L) (hg : w.grownBy w' none) : AnsI w' lo a n cap L :=
  h.kept hg (by cases (Value.slice a n cap).ownBlock <;> simp)
theorem ownI_base {w : World} {base : Nat} {v : Value} {n : Nat} {xs : List Value} (h : w.ownsRow base 3 1 v n xs) : w.ownsRow 0 3 1 v n xs := by
  refine ⟨h.1, ?_⟩
  rcases h.2 with h2 | ⟨g, cap, cur, h3, h4, h5⟩
  · exact .inl h2
  · exact .inr ⟨g, cap, cur, h3, Nat.zero_le _, h5⟩
/-- 'append(v, x...)' of numbers, v the call's own, x not empty -/
theorem wpList_apI (w : World) {ops : Array Oper} {rest : List Oper} {o : Oper} {a : Act} {Q : Exit → Act → World → Prop} (hg : o.guard = none) (s x : Operand)
    (hop : o.op = Op.call { callee := .builtin .append, args := #[s, x], argTypes := #[28, 28] }) (v : Value) (n : Nat) (xs : List Value) (hs : a.eval s = v)
    (hown : w.ownsRow 0 3 1 v n xs) (ad : Addr) (m c : Nat) (news : List Value) (hx : a.eval x = .slice (some ad) m c) (hn : news.length = m)
    (hc : ∀ j u, news[j]? = some u → w.cell? (ad.add j) = some u) (h1 : ∀ u, u ∈ news → u.oneCell' = true) (hm : 0 < m) (hb : n + m ≤ 10000000000000)
    (hK : ∀ g cap w', (v.ownBlock = some g ∨ w.heap.size ≤ g) → w.grownBy w' v.ownBlock → w'.ownsRow 0 3 1 (.slice (some ⟨g, 0, none⟩) (n + m) cap) (n + m) (xs ++ news) →
      wpList Tryd.prog ops Q rest (a.put o.dst (.slice (some ⟨g, 0, none⟩) (n + m) cap)) w') :
    wpList Tryd.prog ops Q (o :: rest) a w := by
  obtain ⟨i0, hi, hz0, hz1, hz2⟩ := info_parts Tryd.info_int
  have grow : ∀ (ao : Option Addr) (cap : Nat), v = .slice ao n cap → (ao = none → n = 0 ∧ cap = 0) → (∀ b, ao = some b → ∀ j u, xs[j]? = some u → w.cell? (b.add j) = some u) → cap < n + m → wpList Tryd.prog ops Q (o :: rest) a w := by
    intro ao cap hv hnone hcells hfull
    refine wpList_append_grows w hg s x 28 hop 3 i0 (.int .i64 0) 1 8 Tryd.underlying28 hi hz0 hz1 hz2 rfl (by decide) ao n cap xs (by rw [hs, hv]) hnone (by rw [hown.1]) hcells ad m c news hx (by rw [hn, Nat.mul_one]) hc h1 hfull (by unfold maxLen; omega) (by omega) ?_
    intro v' w' hown' hgr
    rcases hown'.2 with ⟨_, h0⟩ | ⟨g, cap', cur, rfl, hge, hrest⟩
    · omega
    · exact hK g cap' w' (.inr hge) (grown_weak hgr _) (ownI_base hown')
  rcases hown.2 with ⟨rfl, h0⟩ | ⟨g, cap, cur, rfl, hbase, hh, hle, hmax, hsz, htake⟩
  · subst h0
    exact grow none 0 rfl (fun _ => ⟨rfl, rfl⟩) (fun b hb => by cases hb) (by omega)
  · by_cases hroom : n + m ≤ cap
    · refine wpList_append_fits w hg s x 28 hop 0 3 i0 1 Tryd.underlying28 hi hz1 g n cap xs hs hown ad m c news hx (by rw [hn, Nat.mul_one]) hc h1 hroom ?_
      intro w' hown' hgr
      exact hK g cap w' (.inl rfl) hgr hown'
    · refine grow (some ⟨g, 0, none⟩) cap rfl (fun h => by cases h) ?_ (by omega)
      intro b hb j u hu
      cases hb
      exact hown.cells (g := g) rfl j u hu
theorem int_cell (w : World) (v : Value) (j : Nat) (u : Value) (h : [v][j]? = some u) : (w.alloc (.cells #[v] 3)).cell? ((⟨w.heap.size, 0, none⟩ : Addr).add j) = some u := by
  rw [addr_add, cell_of_row _ _ _ _ _ _ (heap_alloc_new w _)]
  simpa using h
theorem ins_add (A : List Nat) (v : Nat) : ins A ++ [Value.int .i64 (v : Int)] = ins (A ++ [v]) := by simp [ins]

/-! by how much each place is wrong -/
def ptX (n p : Nat) : Nat := pow2 ((p : Int) + 1 - n)
def mby (A Z : List Nat) (n p : Nat) : Nat := if atL A (ptX n p) = 0 then divV (atL Z (ptX n p)) (atL (drvL A) (ptX n p)) else 0
def mendL (W A Z : List Nat) : List Nat := (List.range W.length).map fun p => nth W p ^^^ mby A Z W.length p
def mendN (A Z : List Nat) (n k : Nat) : List Nat := (List.range k).filter fun p => mby A Z n p != 0
theorem divV_lt2 {a b : Nat} (ha : a < 256) : divV a b < 256 := by
  unfold divV; split
  · decide
  · exact Fld.mul_lt _ ha
theorem mby_lt {A Z : List Nat} (hZ : IsB Z) (n p : Nat) : mby A Z n p < 256 := by
  unfold mby; split
  · exact divV_lt2 (atL_lt' hZ _)
  · decide
theorem mendN_step (A Z : List Nat) (n k : Nat) (h : mby A Z n k ≠ 0) : mendN A Z n (k + 1) = mendN A Z n k ++ [k] := by
  unfold mendN
  rw [List.range_succ, List.filter_append]
  congr 1
  simp [h]
theorem mendN_skip (A Z : List Nat) (n k : Nat) (h : mby A Z n k = 0) : mendN A Z n (k + 1) = mendN A Z n k := by
  unfold mendN
  rw [List.range_succ, List.filter_append]
  simp [h]
theorem mendN_le (A Z : List Nat) (n k : Nat) : (mendN A Z n k).length ≤ k := by
  have := List.length_filter_le (fun p => mby A Z n p != 0) (List.range k)
  rw [List.length_range] at this
  exact this
theorem isB_drvL {P : List Nat} (h : IsB P) : IsB (drvL P) := by
  intro x hx
  simp only [drvL, List.mem_map] at hx
  obtain ⟨i, _, rfl⟩ := hx
  split
  · exact h.nth _
  · decide
theorem Rd.apart {w w' : World} {a : Option Addr} {n cap g : Nat} {L : List Nat} (h : Rd w a n cap L) (hg : w.grownBy w' (some g)) (hn : ∀ x, a = some x → x.block ≠ g) : Rd w' a n cap L :=
  h.grown hg (fun b off e => by have := hn _ e; simp; exact this)
theorem grown_off {a b c : World} {r r' : Option Nat} (h : a.grownBy b r) (k : b.grownBy c r') (hr : ∀ g, r' = some g → a.heap.size ≤ g) : a.grownBy c r :=
  ⟨k.os.trans h.os, k.tape.trans h.tape, k.output.trans h.output, Nat.le_trans h.size k.size, fun i hi hn => (k.block i (Nat.lt_of_lt_of_le hi h.size) (fun e => by have := hr i e.symm; omega)).trans (h.block i hi hn)⟩
set_option maxHeartbeats 4000000 in
theorem mend_any (g n capw lo n1 c1 n2 c2 : Nat) (a1 a2 : Option Addr) (W A Z : List Nat) (w : World) (hW : Ans w lo (some ⟨g, 0, none⟩) n capw W) (hA : Rd w a1 n1 c1 A) (hZ : Rd w a2 n2 c2 Z)
    (hA1 : ∀ x, a1 = some x → x.block ≠ g) (hZ1 : ∀ x, a2 = some x → x.block ≠ g) (hn : n ≤ 255) (hn1 : n1 ≤ 10000) (hn2 : n2 ≤ 10000) :
    Calls Tryd.prog 19 #[.slice (some ⟨g, 0, none⟩) n capw, .slice a1 n1 c1, .slice a2 n2 c2] w fun e w' => ∃ ap np cp, e = .returned (.slice ap np cp) ∧ AnsI w' w.heap.size ap np cp (mendN A Z n n) ∧
      Ans w' lo (some ⟨g, 0, none⟩) n capw (mendL W A Z) ∧ w.grownBy w' (some g) := by
  have HL : Hid (W.length = n) := hW.len
  have hgw : g < w.heap.size := by
    rcases hW.cases with ⟨h, _⟩ | ⟨g', h, _, h2⟩
    · cases h
    · cases h; exact h2
  go_enter Tryd.func19, Tryd.ntmps19
  go_wp2_with (go_at_call 31; refine (derivative_any a1 n1 c1 A w hA (by omega)).mono ?_; rintro e w1 ⟨rfl, hd1, g01⟩)
  have hdn : ∀ x, (some ⟨w.heap.size, 0, none⟩ : Option Addr) = some x → x.block ≠ g := fun x hx => by cases hx; show w.heap.size ≠ g; omega
  have hd1' := hd1.rd
  have hA2 := hA.keep g01
  have hZ2 := hZ.keep g01
  have hW2 := hW.keep g01
  have hAB := hA.byte
  have hZB := hZ.byte
  have hDB := isB_drvL hA.byte
  go_loopw [8, 17] (fun s i wr => ∃ (k ns cs : Nat) (as_ : Option Addr), k ≤ n ∧ i = .int .i64 k ∧ s = .slice as_ ns cs ∧ w1.grownBy wr (some g) ∧ AnsI wr w1.heap.size as_ ns cs (mendN A Z n k) ∧
    ∃ D, Ans wr lo (some ⟨g, 0, none⟩) n capw D ∧ ∀ p, p < n → nth D p = if p < k then nth W p ^^^ mby A Z n p else nth W p) (fun _ i _ => n - (intOf i).toNat)
  case atStart => exact ⟨0, 0, 0, none, by omega, rfl, rfl, World.grownBy.refl _ _, ansI_nil _ _, W, hW2, fun p hp => by rw [if_neg (Nat.not_lt_zero _)]⟩
  case round =>
    obtain ⟨k, ns, cs, as_, hk, rfl, rfl, hgr, hS, D, hD, hDv⟩ := hrel
    have HD : Hid (∀ p, p < n → nth D p = if p < k then nth W p ^^^ mby A Z n p else nth W p) := hDv
    have HDl : Hid (D.length = n) := hD.len
    have hns := hS.len
    have hsne : (Value.slice as_ ns cs).ownBlock = none ∨ (Value.slice as_ ns cs).ownBlock ≠ some g := .inr (fun e => by have h1 := hS.new g e; have h2 := g01.size; omega)
    have hnl := mendN_le A Z n k
    clear hDv
    have hA3 := hA2.apart hgr hA1
    have hZ3 := hZ2.apart hgr hZ1
    have hd3 := hd1'.apart hgr hdn
    by_cases hlt : k < n
    · obtain ⟨x, hx⟩ : ∃ x, x = ptX n k := ⟨_, rfl⟩
      have hxl : x < 256 := by rw [hx]; exact pow2_lt _
      have HPW := power_any ((k : Int) + 1 - n) wr (by omega) (by omega)
      have hx' : pow2 ((k : Int) + 1 - n) = x := hx.symm
      rw [hx'] at HPW
      obtain ⟨vA, hvA⟩ : ∃ v, v = atL A x := ⟨_, rfl⟩
      obtain ⟨vZ, hvZ⟩ : ∃ v, v = atL Z x := ⟨_, rfl⟩
      obtain ⟨vD, hvD⟩ : ∃ v, v = atL (drvL A) x := ⟨_, rfl⟩
      have H1 := at_any a1 n1 c1 x A wr hA3 hxl (by omega)
      have H2 : ∀ w', wr.grownBy w' none → _ := fun w' h => at_any a2 n2 c2 x Z w' (hZ3.keep h) hxl (by omega)
      have H3 : ∀ w', wr.grownBy w' none → _ := fun w' h => at_any (some ⟨w.heap.size, 0, none⟩) n1 n1 x (drvL A) w' (hd3.keep h) hxl (by omega)
      rw [← hvA] at H1
      rw [← hvZ] at H2
      rw [← hvD] at H3
      have hAl : vA < 256 := by rw [hvA]; exact atL_lt' hAB x
      have hZl : vZ < 256 := by rw [hvZ]; exact atL_lt' hZB x
      have hDl : vD < 256 := by rw [hvD]; exact atL_lt' hDB x
      have HM : Hid (mby A Z n k = if vA = 0 then divV vZ vD else 0) := by show _ = _; unfold mby; rw [← hx, ← hvA, ← hvZ, ← hvD]
      clear hvA hvZ hvD hx hx'
      by_cases hA0 : vA = 0
      · subst hA0
        have HM2 : Hid (mby A Z n k = divV vZ vD) := by show _ = _; rw [HM.out, if_pos rfl]
        have HDV := fun w => div_any vZ vD hZl hDl w
        have hbyl : divV vZ vD < 256 := divV_lt2 hZl
        obtain ⟨y, hy⟩ : ∃ y, y = divV vZ vD := ⟨_, rfl⟩
        rw [← hy] at HM2 hbyl
        simp only [← hy] at HDV
        clear hy HM
        by_cases hy0 : y = 0
        · have hyz : ((y : Int) != 0) = false := by rw [hy0]; rfl
          have HN : Hid (mendN A Z n (k + 1) = mendN A Z n k ∧ mby A Z n k = 0) := ⟨mendN_skip A Z n k (by rw [HM2.out]; exact hy0), by rw [HM2.out]; exact hy0⟩
          have t1 : True := trivial
          clear hy0
          go_wp2_with (first
            | (go_at_call 27; refine HPW.mono ?_; rintro e w' ⟨rfl, hw⟩; have hw := hw.symm; subst hw)
            | (go_at_call 28; have _t := t1; clear t1; refine H1.mono ?_; rintro e w2 ⟨rfl, g2⟩; have t2 : True := trivial)
            | (go_at_call 28; have _t := t2; clear t2; refine (H2 _ g2).mono ?_; rintro e w3 ⟨rfl, g3⟩; have g23 := grown_trans g2 g3; have t3 : True := trivial)
            | (go_at_call 28; have _t := t3; clear t3; refine (H3 _ g23).mono ?_; rintro e w4 ⟨rfl, g4⟩; have g24 := grown_trans g23 g4)
            | (go_at_call 32; refine (HDV _).mono ?_; rintro e w' ⟨rfl, hw⟩; have hw := hw.symm; subst hw))
          go_roundw
          case rel =>
            refine ⟨k + 1, ns, cs, as_, by omega, by go_num, rfl, grown_trans hgr (grown_weak g24 _), by rw [HN.out.1]; exact hS.keep g24, D, hD.keep g24, fun p hp => ?_⟩
            rw [HD.out p hp]
            by_cases e : p < k
            · rw [if_pos e, if_pos (by omega)]
            · rw [if_neg e]
              by_cases e2 : p < k + 1
              · rw [if_pos e2, show p = k by omega, HN.out.2, Nat.xor_zero]
              · rw [if_neg e2]
          case measure => simp [intOf]; omega
        · have hyz : ((y : Int) != 0) = true := by simp; omega
          have HN : Hid (mendN A Z n (k + 1) = mendN A Z n k ++ [k] ∧ mby A Z n k = y) := ⟨mendN_step A Z n k (by rw [HM2.out]; exact hy0), HM2.out⟩
          have t1 : True := trivial
          have hbk := hD.byte.nth k
          have hxr := u8_xor_nat (nth D k) y hbk hbyl
          clear hy0
          go_wp2_with (first
            | (go_at_call 27; refine HPW.mono ?_; rintro e w' ⟨rfl, hw⟩; have hw := hw.symm; subst hw)
            | (go_at_call 28; have _t := t1; clear t1; refine H1.mono ?_; rintro e w2 ⟨rfl, g2⟩; have t2 : True := trivial)
            | (go_at_call 28; have _t := t2; clear t2; refine (H2 _ g2).mono ?_; rintro e w3 ⟨rfl, g3⟩; have g23 := grown_trans g2 g3; have t3 : True := trivial)
            | (go_at_call 28; have _t := t3; clear t3; refine (H3 _ g23).mono ?_; rintro e w4 ⟨rfl, g4⟩; have g24 := grown_trans g23 g4)
            | (go_at_call 32; refine (HDV _).mono ?_; rintro e w' ⟨rfl, hw⟩; have hw := hw.symm; subst hw; have hD4 := hD.keep g24; have hck := own_cell hD4.own k hlt; have hfk := hD4.own.frozenAt k; have hS4 := hS.keep g24; have hD5 := hD4.set k (nth D k ^^^ y) (Fld.xor_lt hbk hbyl); have hgs := grown_set w4 g k (.int .u8 ((nth D k ^^^ y : Nat) : Int)); have hbs : (w4.setCell ⟨g, k, none⟩ (.int .u8 ((nth D k ^^^ y : Nat) : Int))).heap.size = w4.heap.size := (by simp [World.setCell]); have hSo := (hS4.kept hgs hsne).own.alloc (.cells #[.int .i64 (k : Int)] 3); have hic := int_cell (w4.setCell ⟨g, k, none⟩ (.int .u8 ((nth D k ^^^ y : Nat) : Int))) (.int .i64 (k : Int)); rw [hbs] at hic; have t5 : True := trivial)
            | (at_builtin; have _t := t5; clear t5; refine wpList_apI _ rfl (.tmp 49) (.tmp 51) rfl (.slice as_ ns cs) ns (ins (mendN A Z n k)) rfl hSo ⟨w4.heap.size, 0, none⟩ 1 1 [.int .i64 (k : Int)] rfl rfl hic (by simp [Value.oneCell']) (by decide) (by omega) ?_; intro gx cx' w5 hgx hgr5 hown5))
          have gA := World.grownBy_alloc (w4.setCell ⟨g, k, none⟩ (.int .u8 ((nth D k ^^^ y : Nat) : Int))) (.cells #[.int .i64 (k : Int)] 3) none
          have hD6 := (hD5.keep gA).kept hgr5 (by
            right
            show some g ≠ _
            intro e
            have h1 := hS.new g e.symm
            have h2 := g01.size
            omega)
          rw [ins_add, ← HN.out.1] at hown5
          have g1s := grown_trans (grown_trans hgr (grown_weak g24 _)) hgs
          have g1a := grown_trans g1s (grown_weak gA _)
          have g05 := grown_off g1a hgr5 (fun gg e => hS.new gg e)
          have hgxl : w1.heap.size ≤ gx := by
            rcases hgx with h | h
            · exact hS.new gx h
            · exact Nat.le_trans g1a.size h
          go_wp2
          go_roundw
          case rel =>
            refine ⟨k + 1, ns + 1, cx', some ⟨gx, 0, none⟩, by omega, by go_num, rfl, g05, ⟨hown5, fun g' h => by have e : gx = g' := Option.some.inj h; omega⟩, _, hD6, fun p hp => ?_⟩
            rw [nth_set _ _ _ _ (by rw [HDl.out]; exact hlt), HD.out p hp]
            by_cases e : k = p
            · subst e; rw [if_pos rfl, if_pos (by omega), HD.out k hlt, if_neg (Nat.lt_irrefl _), HN.out.2]
            · rw [if_neg e]
              by_cases e2 : p < k
              · rw [if_pos e2, if_pos (by omega)]
              · rw [if_neg e2, if_neg (by omega)]
          case measure => simp [intOf]; omega
      · have hAz : ((vA : Int) != 0) = true := by simp; omega
        have HN : Hid (mendN A Z n (k + 1) = mendN A Z n k ∧ mby A Z n k = 0) := by
          have e : mby A Z n k = 0 := by rw [HM.out, if_neg hA0]
          exact ⟨mendN_skip A Z n k e, e⟩
        clear hA0
        go_wp2_with (first
          | (go_at_call 27; refine HPW.mono ?_; rintro e w' ⟨rfl, hw⟩; have hw := hw.symm; subst hw)
          | (go_at_call 28; refine H1.mono ?_; rintro e w2 ⟨rfl, g2⟩))
        go_roundw
        case rel =>
          refine ⟨k + 1, ns, cs, as_, by omega, by go_num, rfl, grown_trans hgr (grown_weak g2 _), by rw [HN.out.1]; exact hS.keep g2, D, hD.keep g2, fun p hp => ?_⟩
          rw [HD.out p hp]
          by_cases e : p < k
          · rw [if_pos e, if_pos (by omega)]
          · rw [if_neg e]
            by_cases e2 : p < k + 1
            · rw [if_pos e2, show p = k by omega, HN.out.2, Nat.xor_zero]
            · rw [if_neg e2]
        case measure => simp [intOf]; omega
    · obtain rfl : k = n := by omega
      have HE : Hid (D = mendL W A Z) := by
        show _ = _
        refine list_ext (by rw [HDl.out]; simp [mendL, HL.out]) fun p hp => ?_
        rw [HDl.out] at hp
        rw [HD.out p hp, if_pos hp]
        unfold mendL
        rw [HL.out, nth_map_range _ _ _ hp]
      rw [HE.out] at hD
      go_wp2
      go_ret
      exact ⟨_, _, _, rfl, ⟨hS.own, fun g' h => Nat.le_trans g01.size (hS.new g' h)⟩, hD, ⟨hgr.os.trans g01.os, hgr.tape.trans g01.tape, hgr.output.trans g01.output, Nat.le_trans g01.size hgr.size, fun i hi hne => (hgr.block i (Nat.lt_of_lt_of_le hi g01.size) hne).trans (g01.block i hi (by simp))⟩⟩
end Go.Proofs.YtpenggkefbbopaaDoor
