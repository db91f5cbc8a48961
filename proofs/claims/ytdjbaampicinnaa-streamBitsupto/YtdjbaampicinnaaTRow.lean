import Derived.Test.YtdjbaampicinnaaTMth
namespace Go.Proofs.Ytdjbaampicinnaa
open Go.RowKit
set_option maxRecDepth 100000
set_option linter.unusedVariables false
set_option linter.unusedSimpArgs false

theorem next_fact : ∀ y : Nat, y < 256 → bits BinOp.or IntKind.u8 ((y : Int) * 2 % 256) (bits BinOp.and IntKind.i64 (pop8 (y &&& 149) : Nat) 1 % 256) = (stpN y : Int) := by decide +kernel
theorem next_any (x : Nat) (hx : x < 256) (w : World) : Calls Try.prog 17 #[.int .u8 x] w fun e w' => e = .returned (.int .u8 (itN x 8 : Nat)) ∧ w' = w := by
  go_enter Try.func17, Try.ntmps17
  go_wp2
  go_loop [0, 3] (fun r i => ∃ k : Nat, k ≤ 8 ∧ i = .int .i64 k ∧ r = .int .u8 (itN x k : Nat)) (fun _ i => 8 - (intOf i).toNat)
  case atStart => exact ⟨0, by omega, rfl, rfl⟩
  case round =>
    obtain ⟨k, hk, rfl, rfl⟩ := hrel
    by_cases hlt : k < 8
    · have HS : Hid (itN x (k + 1) = stpN (itN x k)) := rfl
      have hl := itN_lt x hx k
      generalize itN x k = y at *
      have e1 : bits .and .u8 (y : Int) 149 = ((y &&& 149 : Nat) : Int) := u8_and_nat y 149 hl (by decide)
      have l1 : y &&& 149 < 256 := Nat.lt_of_le_of_lt Nat.and_le_left hl
      go_wp2_with (go_at_call 20; refine (ones8_any (y &&& 149) l1 _).mono ?_; rintro e w1 ⟨rfl, rfl⟩)
      go_round
      case rel =>
        refine ⟨k + 1, by omega, by go_num, ?_⟩
        rw [HS.out]; exact congrArg _ (next_fact y hl)
      case measure => simp [intOf]; omega
    · obtain rfl : k = 8 := by omega
      go_wp2
      go_ret
      exact ⟨rfl, rfl⟩

/-! lists that are told by their places -/
def tab (n : Nat) (f : Nat → Nat) : List Nat := (List.range n).map f
theorem tab_len (n : Nat) (f : Nat → Nat) : (tab n f).length = n := by simp [tab]
theorem tab_nth (n : Nat) (f : Nat → Nat) (i : Nat) (h : i < n) : nth (tab n f) i = f i := by
  unfold tab nth; rw [List.getD_eq_getElem?_getD, List.getElem?_map, List.getElem?_range h]; rfl
theorem tab_isB (n : Nat) (f : Nat → Nat) (h : ∀ i, f i < 256) : IsB (tab n f) := by
  intro x hx
  obtain ⟨i, _, rfl⟩ := List.mem_map.1 hx
  exact h i
theorem tab_succ (n : Nat) (f : Nat → Nat) : tab (n + 1) f = tab n f ++ [f n] := by simp [tab, List.range_succ]
theorem tab_ext (n : Nat) (f g : Nat → Nat) (h : ∀ i, i < n → f i = g i) : tab n f = tab n g :=
  list_ext (by rw [tab_len, tab_len]) (fun i hi => by rw [tab_len] at hi; rw [tab_nth _ _ _ hi, tab_nth _ _ _ hi, h i hi])
theorem tab_set (n : Nat) (f g : Nat → Nat) (k x : Nat) (hk : k < n) (h1 : g k = x) (h2 : ∀ i, i < n → i ≠ k → g i = f i) : (tab n f).set k x = tab n g := by
  refine list_ext (by rw [List.length_set, tab_len, tab_len]) fun i hi => ?_
  rw [List.length_set, tab_len] at hi
  rw [nth_set _ _ _ _ (by rw [tab_len]; exact hk)]
  by_cases e : k = i
  · subst e; rw [if_pos rfl, tab_nth _ _ _ hi, h1]
  · rw [if_neg e, tab_nth _ _ _ hi, tab_nth _ _ _ hi, h2 i hi (Ne.symm e)]
theorem tab_zero (n : Nat) (f : Nat → Nat) (h : ∀ i, i < n → f i = 0) : List.replicate n 0 = tab n f := by
  refine list_ext (by rw [List.length_replicate, tab_len]) fun i hi => ?_
  rw [List.length_replicate] at hi
  rw [tab_nth _ _ _ hi, h i hi]; unfold nth; simp [List.getD_eq_getElem?_getD, hi]
/-- bytes by the row -/
def scrL (L : List Nat) : List Nat := tab L.length (fun i => nth L i ^^^ rowN i)
theorem scrL_len (L : List Nat) : (scrL L).length = L.length := tab_len _ _
theorem scr_lt {L : List Nat} (h : IsB L) (i : Nat) : nth L i ^^^ rowN i < 256 := Fld.xor_lt (h.nth i) (rowN_lt i)
theorem scrL_isB {L : List Nat} (h : IsB L) : IsB (scrL L) := tab_isB _ _ (scr_lt h)
theorem scramble_any (a : Option Addr) (n cap : Nat) (L : List Nat) (w : World) (hp : Rd w a n cap L) (hn : n ≤ 140737488351232) :
    Calls Try.prog 9 #[.slice a n cap] w fun e w' => ∃ a', e = .returned (.slice a' n n) ∧ Ans w' w.heap.size a' n n (scrL L) ∧ w.grownBy w' none := by
  have HL : Hid (L.length = n) := hp.len
  go_enter Try.func9, Try.ntmps9
  go_wp2_with (at_make; refine wpList_mkB _ rfl _ _ rfl _ _ n rfl rfl (by omega) (by omega) (by omega) ?_; intro w1 hb1 hg1)
  rw [tab_zero n (fun i => if i < 0 then nth L i ^^^ rowN i else 0) (fun i _ => rfl)] at hb1
  go_loopw [4, 12] (fun r i wr => ∃ k : Nat, k ≤ n ∧ i = .int .i64 k ∧ r = .int .u8 (rowN k : Nat) ∧ w.grownBy wr none ∧ Blk wr w.heap.size (tab n (fun i => if i < k then nth L i ^^^ rowN i else 0))) (fun _ i _ => n - (intOf i).toNat)
  case atStart => exact ⟨0, by omega, rfl, rfl, hg1, hb1⟩
  case round =>
    obtain ⟨k, hk, rfl, rfl, hgr, hB⟩ := hrel
    by_cases hlt : k < n
    · obtain ⟨b, off, rfl, hbw, hcc⟩ := (hp.keep hgr).at' (by omega)
      have hck := hcc k hlt
      have hxk := u8_xor_nat (nth L k) (rowN k) (hp.byte.nth k) (rowN_lt k)
      have hLk := hp.byte.nth k
      have hrk := rowN_lt k
      have hf := hB.free k
      have hc := hB.cell k (by rw [tab_len]; exact hlt)
      have hBs := hB.set k (nth L k ^^^ rowN k)
      rw [tab_set n _ (fun i => if i < k + 1 then nth L i ^^^ rowN i else 0) k _ hlt (if_pos (by omega)) (fun i hi hne => by
        by_cases e : i < k
        · rw [if_pos e, if_pos (by omega)]
        · rw [if_neg e, if_neg (by omega)])] at hBs
      have HN : Hid (rowN (k + 1) = itN (rowN k) 8) := rowN_succ k
      clear hcc
      go_wp2_with (go_at_call 17; refine (next_any _ hrk _).mono ?_; rintro e w2 ⟨rfl, hw⟩; have hw := hw.symm; subst hw)
      go_roundw
      case rel => exact ⟨k + 1, by omega, by go_num, by rw [HN.out], new_then hgr (grown_set _ _ _ _), hBs⟩
      case measure => simp [intOf]; omega
    · obtain rfl : k = n := by omega
      rw [tab_ext k _ (fun i => nth L i ^^^ rowN i) (fun i hi => if_pos hi)] at hB
      have hans := hB.ans (n := k) (lo := w.heap.size) (tab_isB _ _ (scr_lt hp.byte)) (by rw [tab_len]; exact Nat.le_refl _) (by rw [tab_len]; unfold maxLen; omega) (Nat.le_refl _)
      rw [tab_len, List.take_of_length_le (by rw [tab_len]; exact Nat.le_refl _)] at hans
      have HS : Hid (scrL L = tab k (fun i => nth L i ^^^ rowN i)) := by show _ = _; unfold scrL; rw [HL.out]
      go_wp2
      go_ret
      exact ⟨_, rfl, by rw [HS.out]; exact hans, hgr⟩

theorem cell_one (w : World) (v : Value) (j : Nat) (u : Value) (h : [v][j]? = some u) : (w.alloc (.cells #[v] 5)).cell? ((⟨w.heap.size, 0, none⟩ : Addr).add j) = some u := by
  rw [addr_add, cell_of_row _ _ _ _ _ _ (heap_alloc_new w _)]
  simpa using h
theorem bys_add (A : List Nat) (v : Nat) : bys A ++ [Value.int .u8 (v : Int)] = bys (A ++ [v]) := by simp [bys]
theorem isB_single (v : Nat) (h : v < 256) : IsB [v] := fun y hy => by cases hy with | head => exact h | tail _ h2 => cases h2
theorem own_nil (w : World) (lo g c : Nat) (h : w.ownsRow lo 5 1 (.slice (some ⟨g, 0, none⟩) 0 c) 0 []) (hg : lo ≤ g) : Ans w lo (some ⟨g, 0, none⟩) 0 c [] :=
  ⟨own_base h, (fun x hx => by cases hx), fun g' h' => by simp [Value.ownBlock] at h'; omega⟩
/-- the block that an answer may be written into: the one that it had at first, or a new one -/
def Mine (w0 : World) (r : Option Nat) (ao : Option Addr) (m co : Nat) : Prop := ∀ g, (Value.slice ao m co).ownBlock = some g → r = some g ∨ w0.heap.size ≤ g
theorem grown_mine {a b c : World} {r s : Option Nat} (h : a.grownBy b r) (k : b.grownBy c s) (hs : ∀ g, s = some g → r = some g ∨ a.heap.size ≤ g) : a.grownBy c r :=
  ⟨k.os.trans h.os, k.tape.trans h.tape, k.output.trans h.output, Nat.le_trans h.size k.size, fun i hi hn => (k.block i (Nat.lt_of_lt_of_le hi h.size) (fun e => by
    rcases hs i e.symm with h1 | h1
    · exact hn h1.symm
    · omega)).trans (h.block i hi hn)⟩
/-- 'out = append(out, v)' -/
theorem wpList_push2 (w0 w : World) {ops : Array Oper} {rest : List Oper} {o : Oper} {a : Act} {Q : Exit → Act → World → Prop} (hg : o.guard = none) (s x : Operand)
    (hop : o.op = Op.call { callee := .builtin .append, args := #[s, x], argTypes := #[22, 22] }) (ao : Option Addr) (m co v lo : Nat) (r : Option Nat) (D : List Nat) (hs : a.eval s = .slice ao m co)
    (hA : Ans w lo ao m co D) (hG : w0.grownBy w r) (hM : Mine w0 r ao m co) (hlo : lo ≤ w0.heap.size) (hv : v < 256) (hx : a.eval x = .slice (some ⟨w.heap.size, 0, none⟩) 1 1) (hb : m + 1 ≤ 140737488355328)
    (hK : ∀ gx cx w', Ans w' lo (some ⟨gx, 0, none⟩) (m + 1) cx (D ++ [v]) → w0.grownBy w' r → Mine w0 r (some ⟨gx, 0, none⟩) (m + 1) cx → wpList Try.prog ops Q rest (a.put o.dst (.slice (some ⟨gx, 0, none⟩) (m + 1) cx)) w') :
    wpList Try.prog ops Q (o :: rest) a (w.alloc (.cells #[.int .u8 (v : Int)] 5)) := by
  refine wpList_apB _ hg s x hop (.slice ao m co) m (bys D) hs (hA.own.alloc _) ⟨w.heap.size, 0, none⟩ 1 1 [.int .u8 (v : Int)] hx rfl (cell_one w _) (by simp [Value.oneCell']) (by decide) hb ?_
  intro gx cx w2 hgx hgr2 hown2
  rw [bys_add] at hown2
  have gA := grown_trans hG (World.grownBy_alloc w (.cells #[.int .u8 (v : Int)] 5) r)
  have hG2 := grown_mine gA hgr2 hM
  have hsz := gA.size
  refine hK gx cx w2 ⟨hown2, isB_append hA.byte (isB_single v hv), fun g h => ?_⟩ hG2 (fun g h => ?_)
  · have e : gx = g := Option.some.inj h
    subst e
    rcases hgx with h | h
    · exact hA.new gx h
    · exact Nat.le_trans hlo (Nat.le_trans hsz h)
  · have e : gx = g := Option.some.inj h
    subst e
    rcases hgx with h | h
    · exact hM gx h
    · exact .inr (Nat.le_trans hsz h)
/-- the bits of bytes -/
def bN (L : List Nat) (j : Nat) : Nat := nth L (j / 8) / 2 ^ (7 - j % 8) % 2
def bitL (L : List Nat) : List Nat := tab (8 * L.length) (bN L)
theorem bN_lt (L : List Nat) (j : Nat) : bN L j < 2 := Nat.mod_lt _ (by decide)
theorem bitL_isB (L : List Nat) (n : Nat) : IsB (tab n (bN L)) := tab_isB _ _ (fun i => by have := bN_lt L i; omega)
theorem bit_fact : ∀ x : Nat, x < 256 → ∀ p : Nat, p < 8 → bits .and .u8 ((x : Int) / (2 : Int) ^ p) 1 = ((x / 2 ^ p % 2 : Nat) : Int) := by decide +kernel
set_option maxHeartbeats 1000000 in
theorem appendBits_any (ao a : Option Addr) (m co n cap lo : Nat) (D L : List Nat) (w : World) (hA0 : Ans w lo ao m co D) (hlo : lo ≤ w.heap.size) (hp : Rd w a n cap L)
    (hne : 0 < n → ∀ b off, a = some ⟨b, off, none⟩ → some b ≠ (Value.slice ao m co).ownBlock) (hn : m + 8 * n ≤ 140737488355328) :
    Calls Try.prog 18 #[.slice ao m co, .slice a n cap] w fun e w' => ∃ a' c', e = .returned (.slice a' (m + 8 * n : Nat) c') ∧ Ans w' lo a' (m + 8 * n) c' (D ++ bitL L) ∧ w.grownBy w' (Value.slice ao m co).ownBlock ∧ Mine w (Value.slice ao m co).ownBlock a' (m + 8 * n) c' := by
  have HL : Hid (L.length = n) := hp.len
  have hM0 : Mine w (Value.slice ao m co).ownBlock ao m co := fun g h => .inl h
  generalize (Value.slice ao m co).ownBlock = r at *
  go_enter Try.func18, Try.ntmps18
  go_wp2
  go_loopw [0, 10] (fun o i wr => ∃ (k : Nat) (a' : Option Addr) (c' : Nat), k ≤ n ∧ i = .int .i64 k ∧ o = .slice a' (m + 8 * k : Nat) c' ∧ w.grownBy wr r ∧ Ans wr lo a' (m + 8 * k) c' (D ++ tab (8 * k) (bN L)) ∧ Mine w r a' (m + 8 * k) c') (fun _ i _ => n - (intOf i).toNat)
  case atStart => exact ⟨0, ao, co, by omega, rfl, rfl, World.grownBy.refl _ _, by simpa [tab] using hA0, hM0⟩
  case round =>
    obtain ⟨k, a', c', hk, rfl, rfl, hgr, hA, hM⟩ := hrel
    by_cases hlt : k < n
    · obtain ⟨b, off, rfl, hbw, hcc⟩ := (hp.grown' hgr hne).at' (by omega)
      have hck := hcc k hlt
      have hLk := hp.byte.nth k
      clear hcc
      go_wp2
      go_loopw [0, 7] (fun o i wr => ∃ (j : Nat) (a' : Option Addr) (c' : Nat), j ≤ 8 ∧ i = .int .i64 (7 - (j : Int)) ∧ o = .slice a' (m + (8 * k + j) : Nat) c' ∧ w.grownBy wr r ∧ Ans wr lo a' (m + (8 * k + j)) c' (D ++ tab (8 * k + j) (bN L)) ∧ Mine w r a' (m + (8 * k + j)) c') (fun _ i _ => (intOf i + 1).toNat)
      case atStart => exact ⟨0, a', c', by omega, rfl, rfl, hgr, hA, hM⟩
      case round =>
        obtain ⟨j, a1, c1, hj, rfl, rfl, hgr1, hA1, hM1⟩ := hrel
        by_cases hjl : j < 8
        · obtain ⟨p, hpj⟩ : ∃ p : Nat, p = 7 - j := ⟨_, rfl⟩
          have hpz : (7 : Int) - (j : Int) = (p : Int) := by omega
          have HB : Hid (bN L (8 * k + j) = nth L k / 2 ^ p % 2) := by
            show _ = _
            unfold bN
            rw [show (8 * k + j) / 8 = k from by omega, show (8 * k + j) % 8 = j from by omega, hpj]
          have hb := bit_fact (nth L k) hLk p (by omega)
          rw [hpz]
          have hvl : nth L k / 2 ^ p % 2 < 256 := by have : nth L k / 2 ^ p % 2 < 2 := Nat.mod_lt _ (by decide); omega
          have hp8 : p < 8 := by omega
          have HP : Hid (p = 7 - j) := hpj
          clear hpj
          have HZ : Hid ((7 : Int) - (j : Int) = (p : Int)) := hpz
          clear hpz
          generalize nth L k / 2 ^ p % 2 = v at *
          go_wp2_with (at_builtin; refine wpList_push2 w wr rfl (.tmp 18) (.tmp 23) rfl a1 (m + (8 * k + j)) c1 v lo r _ rfl hA1 hgr1 hM1 hlo hvl rfl (by omega) ?_; intro gx cx w2 hA2 hG2 hM2)
          go_roundw
          case rel =>
            have hz := HZ.out
            rw [List.append_assoc, ← HB.out, ← tab_succ] at hA2
            exact ⟨j + 1, _, cx, by omega, by go_num, rfl, hG2, hA2, hM2⟩
          case measure => simp [intOf] <;> omega
        · obtain rfl : j = 8 := by omega
          go_wp2
          go_roundw
          case rel => exact ⟨k + 1, a1, c1, by omega, by go_num, rfl, hgr1, hA1, hM1⟩
          case measure => simp [intOf]; omega
    · obtain rfl : k = n := by omega
      have HS : Hid (bitL L = tab (8 * k) (bN L)) := by show _ = _; unfold bitL; rw [HL.out]
      go_wp2
      go_ret
      exact ⟨a', c', rfl, by rw [HS.out]; exact hA, hgr, hM⟩
end Go.Proofs.Ytdjbaampicinnaa
