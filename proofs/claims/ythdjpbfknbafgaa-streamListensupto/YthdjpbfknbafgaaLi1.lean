import Derived.Deep.RegionLawGrows
import Derived.Test.YthdjpbfknbafgaaLi0
namespace Go.Proofs.Ythdjpbfknbafgaa
open Go.RowKit
set_option maxRecDepth 100000
set_option linter.unusedVariables false
set_option linter.unusedSimpArgs false

section
/-- how many bits of a byte are set -/
def pop8 (x : Nat) : Nat := x % 2 + x / 2 % 2 + x / 4 % 2 + x / 8 % 2 + x / 16 % 2 + x / 32 % 2 + x / 64 % 2 + x / 128 % 2
/-- the next bit of the row, told by the eight that are there; a step of the register -/
def parN (x : Nat) : Nat := (x + x / 4 + x / 16 + x / 128) % 2
def stpN (x : Nat) : Nat := (2 * x + parN x) % 256
def itN (x : Nat) : Nat → Nat
  | 0 => x
  | k + 1 => stpN (itN x k)
theorem stpN_lt (x : Nat) : stpN x < 256 := Nat.mod_lt _ (by decide)
theorem itN_lt (x : Nat) (hx : x < 256) (k : Nat) : itN x k < 256 := by
  cases k with
  | zero => exact hx
  | succ k => exact stpN_lt _
theorem itN_add (x a b : Nat) : itN x (a + b) = itN (itN x a) b := by
  induction b with
  | zero => rfl
  | succ b ih => show stpN (itN x (a + b)) = stpN _; rw [ih]
/-- the register behind n bits; the row's byte i, its bit n -/
def rgS (n : Nat) : Nat := itN 255 n
def rowN (i : Nat) : Nat := rgS (8 * i)
def sbN (n : Nat) : Nat := rgS n / 128
theorem rgS_lt (n : Nat) : rgS n < 256 := itN_lt 255 (by decide) n
theorem rowN_lt (i : Nat) : rowN i < 256 := rgS_lt _
theorem sbN_lt (n : Nat) : sbN n < 2 := by have := rgS_lt n; unfold sbN; omega
theorem rowN_succ (i : Nat) : rowN (i + 1) = itN (rowN i) 8 := by
  unfold rowN rgS; rw [show 8 * (i + 1) = 8 * i + 8 from by omega, itN_add]
theorem stp_bits : ∀ x : Nat, x < 256 → (∀ j, j < 7 → stpN x / 2 ^ (j + 1) % 2 = x / 2 ^ j % 2) ∧ stpN x % 2 = parN x := by decide +kernel
theorem reg_bit (n : Nat) : ∀ j, j < 8 → rgS n / 2 ^ (7 - j) % 2 = sbN (n + j) := by
  intro j
  induction j generalizing n with
  | zero =>
    intro _
    have := rgS_lt n
    show rgS n / 128 % 2 = rgS n / 128
    omega
  | succ j ih =>
    intro hj
    have h := ih (n + 1) (by omega)
    have e : rgS (n + 1) = stpN (rgS n) := rfl
    rw [e, show 7 - j = (7 - (j + 1)) + 1 from by omega, (stp_bits (rgS n) (rgS_lt n)).1 _ (by omega)] at h
    rw [h]; congr 1; omega
theorem row_bit (i j : Nat) (hj : j < 8) : rowN i / 2 ^ (7 - j) % 2 = sbN (8 * i + j) := reg_bit (8 * i) j hj
theorem sb_next (n : Nat) : sbN (n + 8) = (sbN (n + 7) + sbN (n + 5) + sbN (n + 3) + sbN n) % 2 := by
  have h7 := reg_bit n 7 (by decide)
  have h5 := reg_bit n 5 (by decide)
  have h3 := reg_bit n 3 (by decide)
  have h0 := reg_bit n 0 (by decide)
  have h8 := reg_bit (n + 1) 7 (by decide)
  have e : rgS (n + 1) = stpN (rgS n) := rfl
  rw [e] at h8
  have hs := (stp_bits (rgS n) (rgS_lt n)).2
  have hp : parN (rgS n) = (rgS n + rgS n / 4 + rgS n / 16 + rgS n / 128) % 2 := rfl
  simp only [Nat.sub_self, Nat.pow_zero, Nat.div_one, show 7 - 5 = 2 from rfl, show 7 - 3 = 4 from rfl, show 7 - 0 = 7 from rfl, show (2:Nat) ^ 2 = 4 from rfl, show (2:Nat) ^ 4 = 16 from rfl, show (2:Nat) ^ 7 = 128 from rfl, Nat.add_zero] at h7 h5 h3 h0 h8
  rw [show n + 1 + 7 = n + 8 from by omega] at h8
  have := rgS_lt n
  omega
theorem xor4KxTm : ∀ a b c d : Nat, a < 2 → b < 2 → c < 2 → d < 2 → ((a ^^^ b) ^^^ c) ^^^ d = (a + b + c + d) % 2 := by
  intro a b c d ha hb hc hd
  have e : ∀ a, a < 2 → ∀ b, b < 2 → ∀ c, c < 2 → ∀ d, d < 2 → ((a ^^^ b) ^^^ c) ^^^ d = (a + b + c + d) % 2 := by decide
  exact e a ha b hb c hc d hd

/-! the program's row -/
theorem ones8_any (x : Nat) (hx : x < 256) (w : World) : Calls Try.prog 38 #[.int .u8 x] w fun e w' => e = .returned (.int .i64 (pop8 x : Nat)) ∧ w' = w := by
  go_enter Try.func38, Try.ntmps38
  go_wp2
  go_ret
  refine ⟨congrArg (fun z => Ending.returned (Value.int .i64 z)) ?_, rfl⟩
  clear w
  revert x
  decide +kernel

theorem next_fact : ∀ y : Nat, y < 256 → bits BinOp.or IntKind.u8 ((y : Int) * 2 % 256) (bits BinOp.and IntKind.i64 (pop8 (y &&& 149) : Nat) 1 % 256) = (stpN y : Int) := by decide +kernel
theorem next_any (x : Nat) (hx : x < 256) (w : World) : Calls Try.prog 35 #[.int .u8 x] w fun e w' => e = .returned (.int .u8 (itN x 8 : Nat)) ∧ w' = w := by
  go_enter Try.func35, Try.ntmps35
  go_wp2
  go_loop [0, 3] (fun r i => ∃ k : Nat, k ≤ 8 ∧ i = .int .i64 k ∧ r = .int .u8 (itN x k : Nat)) (fun _ i => 8 - (intOf i).toNat)
  case atStart => exact ⟨0, by omega, rfl, rfl⟩
  case round =>
    obtain ⟨k, hk, rfl, rfl⟩ := hrel
    by_cases hlt : k < 8
    · have HS : Hid (itN x (k + 1) = stpN (itN x k)) := rfl
      have hl := itN_lt x hx k
      generalize itN x k = y at *
      have e1 : bits .and .u8 (y : Int) 149 = ((y &&& 149 : Nat) : Int) := u8_and_nat y 149 hl (by decide)
      have l1 : y &&& 149 < 256 := Nat.lt_of_le_of_lt Nat.and_le_left hl
      go_wp2_with (go_at_call 38; refine (ones8_any (y &&& 149) l1 _).mono ?_; rintro e w1 ⟨rfl, rfl⟩)
      go_round
      case rel =>
        refine ⟨k + 1, by omega, by go_num, ?_⟩
        rw [HS.out]; exact congrArg _ (next_fact y hl)
      case measure => simp [intOf]; omega
    · obtain rfl : k = 8 := by omega
      go_wp2
      go_ret
      exact ⟨rfl, rfl⟩

/-! lists that are told by their places -/
def tab (n : Nat) (f : Nat → Nat) : List Nat := (List.range n).map f
theorem tab_len (n : Nat) (f : Nat → Nat) : (tab n f).length = n := by simp [tab]
theorem tab_nth (n : Nat) (f : Nat → Nat) (i : Nat) (h : i < n) : nth (tab n f) i = f i := by
  unfold tab nth; rw [List.getD_eq_getElem?_getD, List.getElem?_map, List.getElem?_range h]; rfl
theorem tab_isB (n : Nat) (f : Nat → Nat) (h : ∀ i, f i < 256) : IsB (tab n f) := by
  intro x hx
  obtain ⟨i, _, rfl⟩ := List.mem_map.1 hx
  exact h i
theorem tab_succ (n : Nat) (f : Nat → Nat) : tab (n + 1) f = tab n f ++ [f n] := by simp [tab, List.range_succ]
theorem tab_ext (n : Nat) (f g : Nat → Nat) (h : ∀ i, i < n → f i = g i) : tab n f = tab n g :=
  list_ext (by rw [tab_len, tab_len]) (fun i hi => by rw [tab_len] at hi; rw [tab_nth _ _ _ hi, tab_nth _ _ _ hi, h i hi])
theorem tab_set (n : Nat) (f g : Nat → Nat) (k x : Nat) (hk : k < n) (h1 : g k = x) (h2 : ∀ i, i < n → i ≠ k → g i = f i) : (tab n f).set k x = tab n g := by
  refine list_ext (by rw [List.length_set, tab_len, tab_len]) fun i hi => ?_
  rw [List.length_set, tab_len] at hi
  rw [nth_set _ _ _ _ (by rw [tab_len]; exact hk)]
  by_cases e : k = i
  · subst e; rw [if_pos rfl, tab_nth _ _ _ hi, h1]
  · rw [if_neg e, tab_nth _ _ _ hi, tab_nth _ _ _ hi, h2 i hi (Ne.symm e)]
theorem tab_zero (n : Nat) (f : Nat → Nat) (h : ∀ i, i < n → f i = 0) : List.replicate n 0 = tab n f := by
  refine list_ext (by rw [List.length_replicate, tab_len]) fun i hi => ?_
  rw [List.length_replicate] at hi
  rw [tab_nth _ _ _ hi, h i hi]; unfold nth; simp [List.getD_eq_getElem?_getD, hi]
/-- bytes by the row -/
def scrL (L : List Nat) : List Nat := tab L.length (fun i => nth L i ^^^ rowN i)
theorem scrL_len (L : List Nat) : (scrL L).length = L.length := tab_len _ _
theorem scr_lt {L : List Nat} (h : IsB L) (i : Nat) : nth L i ^^^ rowN i < 256 := Fld.xor_lt (h.nth i) (rowN_lt i)
theorem scrL_isB {L : List Nat} (h : IsB L) : IsB (scrL L) := tab_isB _ _ (scr_lt h)
theorem scramble_any (a : Option Addr) (n cap : Nat) (L : List Nat) (w : World) (hp : Rd w a n cap L) (hn : n ≤ 140737488351232) :
    Calls Try.prog 31 #[.slice a n cap] w fun e w' => ∃ a', e = .returned (.slice a' n n) ∧ Ans w' w.heap.size a' n n (scrL L) ∧ w.grownBy w' none := by
  have HL : Hid (L.length = n) := hp.len
  go_enter Try.func31, Try.ntmps31
  go_wp2_with (at_make; refine wpList_mkB _ rfl _ _ rfl _ _ n rfl rfl (by omega) (by omega) (by omega) ?_; intro w1 hb1 hg1)
  rw [tab_zero n (fun i => if i < 0 then nth L i ^^^ rowN i else 0) (fun i _ => rfl)] at hb1
  go_loopw [4, 12] (fun r i wr => ∃ k : Nat, k ≤ n ∧ i = .int .i64 k ∧ r = .int .u8 (rowN k : Nat) ∧ w.grownBy wr none ∧ Blk wr w.heap.size (tab n (fun i => if i < k then nth L i ^^^ rowN i else 0))) (fun _ i _ => n - (intOf i).toNat)
  case atStart => exact ⟨0, by omega, rfl, rfl, hg1, hb1⟩
  case round =>
    obtain ⟨k, hk, rfl, rfl, hgr, hB⟩ := hrel
    by_cases hlt : k < n
    · obtain ⟨b, off, rfl, hbw, hcc⟩ := (hp.keep hgr).at' (by omega)
      have hck := hcc k hlt
      have hxk := u8_xor_nat (nth L k) (rowN k) (hp.byte.nth k) (rowN_lt k)
      have hLk := hp.byte.nth k
      have hrk := rowN_lt k
      have hf := hB.free k
      have hc := hB.cell k (by rw [tab_len]; exact hlt)
      have hBs := hB.set k (nth L k ^^^ rowN k)
      rw [tab_set n _ (fun i => if i < k + 1 then nth L i ^^^ rowN i else 0) k _ hlt (if_pos (by omega)) (fun i hi hne => by
        by_cases e : i < k
        · rw [if_pos e, if_pos (by omega)]
        · rw [if_neg e, if_neg (by omega)])] at hBs
      have HN : Hid (rowN (k + 1) = itN (rowN k) 8) := rowN_succ k
      clear hcc
      go_wp2_with (go_at_call 35; refine (next_any _ hrk _).mono ?_; rintro e w2 ⟨rfl, hw⟩; have hw := hw.symm; subst hw)
      go_roundw
      case rel => exact ⟨k + 1, by omega, by go_num, by rw [HN.out], new_then hgr (grown_set _ _ _ _), hBs⟩
      case measure => simp [intOf]; omega
    · obtain rfl : k = n := by omega
      rw [tab_ext k _ (fun i => nth L i ^^^ rowN i) (fun i hi => if_pos hi)] at hB
      have hans := hB.ans (n := k) (lo := w.heap.size) (tab_isB _ _ (scr_lt hp.byte)) (by rw [tab_len]; exact Nat.le_refl _) (by rw [tab_len]; unfold maxLen; omega) (Nat.le_refl _)
      rw [tab_len, List.take_of_length_le (by rw [tab_len]; exact Nat.le_refl _)] at hans
      have HS : Hid (scrL L = tab k (fun i => nth L i ^^^ rowN i)) := by show _ = _; unfold scrL; rw [HL.out]
      go_wp2
      go_ret
      exact ⟨_, rfl, by rw [HS.out]; exact hans, hgr⟩

theorem cell_one (w : World) (v : Value) (j : Nat) (u : Value) (h : [v][j]? = some u) : (w.alloc (.cells #[v] 5)).cell? ((⟨w.heap.size, 0, none⟩ : Addr).add j) = some u := by
  rw [addr_add, cell_of_row _ _ _ _ _ _ (heap_alloc_new w _)]
  simpa using h
theorem bys_add (A : List Nat) (v : Nat) : bys A ++ [Value.int .u8 (v : Int)] = bys (A ++ [v]) := by simp [bys]
theorem isB_single (v : Nat) (h : v < 256) : IsB [v] := fun y hy => by cases hy with | head => exact h | tail _ h2 => cases h2
/-- the block that an answer may be written into: the one that it had at first, or a new one -/
def Mine (w0 : World) (r : Option Nat) (ao : Option Addr) (m co : Nat) : Prop := ∀ g, (Value.slice ao m co).ownBlock = some g → r = some g ∨ w0.heap.size ≤ g
theorem grown_mine {a b c : World} {r s : Option Nat} (h : a.grownBy b r) (k : b.grownBy c s) (hs : ∀ g, s = some g → r = some g ∨ a.heap.size ≤ g) : a.grownBy c r :=
  ⟨k.os.trans h.os, k.tape.trans h.tape, k.output.trans h.output, Nat.le_trans h.size k.size, fun i hi hn => (k.block i (Nat.lt_of_lt_of_le hi h.size) (fun e => by
    rcases hs i e.symm with h1 | h1
    · exact hn h1.symm
    · omega)).trans (h.block i hi hn)⟩
/-- 'out = append(out, v)' -/
theorem wpList_push2 (w0 w : World) {ops : Array Oper} {rest : List Oper} {o : Oper} {a : Act} {Q : Exit → Act → World → Prop} (hg : o.guard = none) (s x : Operand)
    (hop : o.op = Op.call { callee := .builtin .append, args := #[s, x], argTypes := #[25, 25] }) (ao : Option Addr) (m co v lo : Nat) (r : Option Nat) (D : List Nat) (hs : a.eval s = .slice ao m co)
    (hA : Ans w lo ao m co D) (hG : w0.grownBy w r) (hM : Mine w0 r ao m co) (hlo : lo ≤ w0.heap.size) (hv : v < 256) (hx : a.eval x = .slice (some ⟨w.heap.size, 0, none⟩) 1 1) (hb : m + 1 ≤ 140737488355328)
    (hK : ∀ gx cx w', Ans w' lo (some ⟨gx, 0, none⟩) (m + 1) cx (D ++ [v]) → w0.grownBy w' r → Mine w0 r (some ⟨gx, 0, none⟩) (m + 1) cx → wpList Try.prog ops Q rest (a.put o.dst (.slice (some ⟨gx, 0, none⟩) (m + 1) cx)) w') :
    wpList Try.prog ops Q (o :: rest) a (w.alloc (.cells #[.int .u8 (v : Int)] 5)) := by
  refine wpList_apB _ hg s x hop (.slice ao m co) m (bys D) hs (hA.own.alloc _) ⟨w.heap.size, 0, none⟩ 1 1 [.int .u8 (v : Int)] hx rfl (cell_one w _) (by simp [Value.oneCell']) (by decide) hb ?_
  intro gx cx w2 hgx hgr2 hown2
  rw [bys_add] at hown2
  have gA := grown_trans hG (World.grownBy_alloc w (.cells #[.int .u8 (v : Int)] 5) r)
  have hG2 := grown_mine gA hgr2 hM
  have hsz := gA.size
  refine hK gx cx w2 ⟨hown2, isB_append hA.byte (isB_single v hv), fun g h => ?_⟩ hG2 (fun g h => ?_)
  · have e : gx = g := Option.some.inj h
    subst e
    rcases hgx with h | h
    · exact hA.new gx h
    · exact Nat.le_trans hlo (Nat.le_trans hsz h)
  · have e : gx = g := Option.some.inj h
    subst e
    rcases hgx with h | h
    · exact hM gx h
    · exact .inr (Nat.le_trans hsz h)
/-- the bits of bytes -/
def bN (L : List Nat) (j : Nat) : Nat := nth L (j / 8) / 2 ^ (7 - j % 8) % 2
def mkN (j : Nat) : Nat := 449838109 / 2 ^ (31 - j) % 2
theorem mkN_lt (j : Nat) : mkN j < 2 := Nat.mod_lt _ (by decide)
theorem mark_fact : ∀ p : Nat, p < 32 → bits .and .i64 (449838109 / (2 : Int) ^ p) 1 % 256 = ((449838109 / 2 ^ p % 2 : Nat) : Int) := by decide +kernel
theorem step_append_fits {P : Program} {ops : Array Oper} {o : Oper} {a : Act} {w : World} {K : Act → World → Prop} {Q : Exit → Act → World → Prop} {E : Prop}
    (hg : o.guard = none) (s x : Operand) (t : TypeId) (hop : o.op = Op.call { callee := Callee.builtin Builtin.append, args := #[s, x], argTypes := #[t, t] })
    (base : Nat) (e : TypeId) (i : TypeInfo) (size : Nat) (h1 : P.underlying t = some (.slice e)) (h2 : P.info? e = some i) (h4 : i.size = size)
    (g k cap : Nat) (xs : List Value) (hs : a.eval s = .slice (some ⟨g, 0, none⟩) k cap) (hown : w.ownsRow base e size (.slice (some ⟨g, 0, none⟩) k cap) k xs) (ad : Addr) (m c : Nat) (news : List Value) (hx : a.eval x = .slice (some ad) m c) (hn : news.length = m * size)
    (hc : ∀ j u, news[j]? = some u → w.cell? (ad.add j) = some u) (h1c : ∀ u ∈ news, u.oneCell' = true) (b1 : k + m ≤ cap)
    (hK : ∀ w', w'.ownsRow base e size (.slice (some ⟨g, 0, none⟩) (k + m) cap) (k + m) (xs ++ news) → w.grownBy w' (some g) → K (a.put o.dst (.slice (some ⟨g, 0, none⟩) (k + m) cap)) w') :
    if Region.wanted o (yielded ops a.tmps) = true then Oper.wp P o a w K Q else E := by
  have hw : Region.wanted o (yielded ops a.tmps) = true := by simp [Region.wanted, hg]
  rw [if_pos hw]
  obtain ⟨w', hrun, r1, r2⟩ := run_append_fits (P := P) w base t o.type e i size h1 h2 h4 g k cap xs hown ad m c news hn hc h1c b1
  unfold Oper.wp
  simp [execOp, hop, resolve, invoke, builtin, hs, hx, hrun, Result.andThen]
  exact hK w' r1 r2
/-- 'append(v, x...)', v the call's own, x not empty, in a region that draws -/
theorem step_apB (w : World) {ops : Array Oper} {o : Oper} {a : Act} {K : Act → World → Prop} {Q : Exit → Act → World → Prop} {E : Prop} (hg : o.guard = none) (s x : Operand)
    (hop : o.op = Op.call { callee := .builtin .append, args := #[s, x], argTypes := #[25, 25] }) (v : Value) (n : Nat) (xs : List Value) (hs : a.eval s = v)
    (hown : w.ownsRow 0 5 1 v n xs) (ad : Addr) (m c : Nat) (news : List Value) (hx : a.eval x = .slice (some ad) m c) (hn : news.length = m)
    (hc : ∀ j u, news[j]? = some u → w.cell? (ad.add j) = some u) (h1 : ∀ u, u ∈ news → u.oneCell' = true) (hm : 0 < m) (hb : n + m ≤ 140737488355328)
    (hK : ∀ g cap w', (v.ownBlock = some g ∨ w.heap.size ≤ g) → w.grownBy w' v.ownBlock → w'.ownsRow 0 5 1 (.slice (some ⟨g, 0, none⟩) (n + m) cap) (n + m) (xs ++ news) → (∀ g0, v.ownBlock = some g0 → ∀ j u, xs[j]? = some u → w'.cell? ⟨g0, j, none⟩ = some u) →
      K (a.put o.dst (.slice (some ⟨g, 0, none⟩) (n + m) cap)) w') :
    if Region.wanted o (yielded ops a.tmps) = true then Oper.wp Try.prog o a w K Q else E := by
  obtain ⟨i0, hi, hz0, hz1, hz2⟩ := info_parts Try.info_u8
  have grow : ∀ (ao : Option Addr) (cap : Nat), v = .slice ao n cap → (ao = none → n = 0 ∧ cap = 0) → (∀ b, ao = some b → ∀ j u, xs[j]? = some u → w.cell? (b.add j) = some u) → (∀ b, ao = some b → b = ⟨b.block, 0, none⟩) → cap < n + m → if Region.wanted o (yielded ops a.tmps) = true then Oper.wp Try.prog o a w K Q else E := by
    intro ao cap hv hnone hcells hfirst hfull
    refine step_append_grows hg s x 25 hop 5 i0 (.int .u8 0) 1 1 Try.underlying25 hi hz0 hz1 hz2 rfl (by decide) ao n cap xs (by rw [hs, hv]) hnone (by rw [hown.1]) hcells ad m c news hx (by rw [hn, Nat.mul_one]) hc h1 hfull (by unfold maxLen; omega) (by omega) ?_
    intro v' w' hown' hgr
    rcases hown'.2 with ⟨_, h0⟩ | ⟨g, cap', cur, rfl, hge, hrest⟩
    · omega
    · refine hK g cap' w' (.inr hge) (grown_weak hgr _) (own_base hown') (fun g0 hg0 j u hu => ?_)
      subst hv
      cases ao with
      | none => simp [Value.ownBlock] at hg0
      | some b =>
        have hb0 : b.block = g0 := by simpa [Value.ownBlock] using hg0
        have hc0 := hcells b rfl j u hu
        have hz := hfirst b rfl
        rw [hb0] at hz
        rw [hz, addr_add, Nat.zero_add] at hc0
        exact (World.cell?_of_block (w := w) (hgr.block _ (World.block_lt_of_cell? w _ hc0) (by simp))).trans hc0
  rcases hown.2 with ⟨rfl, h0⟩ | ⟨g, cap, cur, rfl, hbase, hh, hle, hmax, hsz, htake⟩
  · subst h0
    exact grow none 0 rfl (fun _ => ⟨rfl, rfl⟩) (fun b hb => by cases hb) (fun b hb => by cases hb) (by omega)
  · by_cases hroom : n + m ≤ cap
    · refine step_append_fits hg s x 25 hop 0 5 i0 1 Try.underlying25 hi hz1 g n cap xs hs hown ad m c news hx (by rw [hn, Nat.mul_one]) hc h1 hroom ?_
      intro w' hown' hgr
      refine hK g cap w' (.inl rfl) hgr hown' (fun g0 hg0 j u hu => ?_)
      have e : g = g0 := Option.some.inj hg0
      subst e
      have hj : j < xs.length := (List.getElem?_eq_some_iff.1 hu).1
      have h2 := hown'.cells (g := g) rfl j u (by rw [List.getElem?_append_left hj]; exact hu)
      rw [addr_add, Nat.zero_add] at h2
      exact h2
    · refine grow (some ⟨g, 0, none⟩) cap rfl (fun h => by cases h) ?_ (fun b hb => by cases hb; rfl) (by omega)
      intro b hb j u hu
      cases hb
      exact hown.cells (g := g) rfl j u hu
/-- 'out = append(out, v)' in a region that draws -/
theorem step_push2 (w0 w : World) {ops : Array Oper} {o : Oper} {a : Act} {K : Act → World → Prop} {Q : Exit → Act → World → Prop} {E : Prop} (hg : o.guard = none) (s x : Operand)
    (hop : o.op = Op.call { callee := .builtin .append, args := #[s, x], argTypes := #[25, 25] }) (ao : Option Addr) (m co v lo : Nat) (r : Option Nat) (D : List Nat) (hs : a.eval s = .slice ao m co)
    (hA : Ans w lo ao m co D) (hG : w0.grownBy w r) (hM : Mine w0 r ao m co) (hlo : lo ≤ w0.heap.size) (hv : v < 256) (hx : a.eval x = .slice (some ⟨w.heap.size, 0, none⟩) 1 1) (hb : m + 1 ≤ 140737488355328)
    (hK : ∀ gx cx w', Ans w' lo (some ⟨gx, 0, none⟩) (m + 1) cx (D ++ [v]) → w0.grownBy w' r → Mine w0 r (some ⟨gx, 0, none⟩) (m + 1) cx → (∀ g0, ao = some ⟨g0, 0, none⟩ → ∀ j, j < m → w'.cell? ⟨g0, j, none⟩ = some (.int .u8 (nth D j : Nat))) → K (a.put o.dst (.slice (some ⟨gx, 0, none⟩) (m + 1) cx)) w') :
    if Region.wanted o (yielded ops a.tmps) = true then Oper.wp Try.prog o a (w.alloc (.cells #[.int .u8 (v : Int)] 5)) K Q else E := by
  refine step_apB _ hg s x hop (.slice ao m co) m (bys D) hs (hA.own.alloc _) ⟨w.heap.size, 0, none⟩ 1 1 [.int .u8 (v : Int)] hx rfl (cell_one w _) (by simp [Value.oneCell']) (by decide) hb ?_
  intro gx cx w2 hgx hgr2 hown2 hold2
  rw [bys_add] at hown2
  have gA := grown_trans hG (World.grownBy_alloc w (.cells #[.int .u8 (v : Int)] 5) r)
  have hG2 := grown_mine gA hgr2 hM
  have hsz := gA.size
  refine hK gx cx w2 ⟨hown2, isB_append hA.byte (isB_single v hv), fun g h => ?_⟩ hG2 (fun g h => ?_) (fun g0 hg0 j hj => hold2 g0 (by rw [hg0]; rfl) j _ (nth_bys D j (by rw [hA.len]; exact hj)))
  · have e : gx = g := Option.some.inj h
    subst e
    rcases hgx with h | h
    · exact hA.new gx h
    · exact Nat.le_trans hlo (Nat.le_trans hsz h)
  · have e : gx = g := Option.some.inj h
    subst e
    rcases hgx with h | h
    · exact hM gx h
    · exact .inr (Nat.le_trans hsz h)
theorem sb_xor (j : Nat) (hj : 8 ≤ j) : ((sbN (j - 1) ^^^ sbN (j - 3)) ^^^ sbN (j - 5)) ^^^ sbN (j - 8) = sbN j := by
  rw [xor4KxTm _ _ _ _ (sbN_lt _) (sbN_lt _) (sbN_lt _) (sbN_lt _)]
  obtain ⟨n, rfl⟩ : ∃ n, j = n + 8 := ⟨j - 8, by omega⟩
  rw [sb_next]
  rfl
/-- what of the row's byte k has been laid on behind i bits -/
def mskN (i k : Nat) : Nat := rowN k / 2 ^ (8 - min 8 (i - 8 * k)) * 2 ^ (8 - min 8 (i - 8 * k))
theorem mskN_zero (k : Nat) : mskN 0 k = 0 := by
  unfold mskN
  have := rowN_lt k
  rw [show 8 - min 8 (0 - 8 * k) = 8 from by omega, Nat.div_eq_of_lt this, Nat.zero_mul]
theorem mskN_all (n k : Nat) (h : k < n) : mskN (8 * n) k = rowN k := by
  unfold mskN
  rw [show 8 - min 8 (8 * n - 8 * k) = 0 from by omega, Nat.pow_zero, Nat.div_one, Nat.mul_one]
theorem mskN_other (k t k' : Nat) (ht : t < 8) (h : k' ≠ k) : mskN (8 * k + t + 1) k' = mskN (8 * k + t) k' := by
  unfold mskN
  rw [show 8 - min 8 (8 * k + t + 1 - 8 * k') = 8 - min 8 (8 * k + t - 8 * k') from by omega]
theorem msk_fact : ∀ x : Nat, x < 256 → ∀ t : Nat, t < 8 → (x / 2 ^ (8 - t) * 2 ^ (8 - t)) ^^^ (x / 2 ^ (7 - t) % 2 * 2 ^ (7 - t)) = x / 2 ^ (7 - t) * 2 ^ (7 - t) := by decide +kernel
theorem mskN_step (k t : Nat) (ht : t < 8) : mskN (8 * k + t) k ^^^ (sbN (8 * k + t) * 2 ^ (7 - t)) = mskN (8 * k + t + 1) k := by
  unfold mskN
  rw [show 8 - min 8 (8 * k + t - 8 * k) = 8 - t from by omega, show 8 - min 8 (8 * k + t + 1 - 8 * k) = 7 - t from by omega, ← row_bit k t ht]
  exact msk_fact (rowN k) (rowN_lt k) t ht
theorem mskN_lt (i k : Nat) : mskN i k < 256 := Nat.lt_of_le_of_lt (Nat.div_mul_le_self _ _) (rowN_lt k)
theorem shl_fact : ∀ x : Nat, x < 2 → ∀ p : Nat, p < 8 → IntKind.u8.wrap ((x : Int) * 2 ^ p) = ((x * 2 ^ p : Nat) : Int) := by decide +kernel
theorem shl_lt : ∀ x : Nat, x < 2 → ∀ p : Nat, p < 8 → x * 2 ^ p < 256 := by decide +kernel
theorem eight_ones (w : World) : Ans (w.alloc (.cells #[.int .u8 1, .int .u8 1, .int .u8 1, .int .u8 1, .int .u8 1, .int .u8 1, .int .u8 1, .int .u8 1] 5)) w.heap.size (some ⟨w.heap.size, 0, none⟩) 8 8 (tab 8 sbN) := by
  have e : tab 8 sbN = [1, 1, 1, 1, 1, 1, 1, 1] := by decide +kernel
  rw [e]
  have hB : Blk (w.alloc (.cells #[.int .u8 1, .int .u8 1, .int .u8 1, .int .u8 1, .int .u8 1, .int .u8 1, .int .u8 1, .int .u8 1] 5)) w.heap.size [1, 1, 1, 1, 1, 1, 1, 1] := heap_alloc_new w _
  have h := hB.ans (n := 8) (lo := w.heap.size) (by intro x hx; simp at hx; omega) (by decide) (by decide) (Nat.le_refl _)
  exact h
set_option maxHeartbeats 4000000 in
theorem rscramble_any (a : Option Addr) (n cap : Nat) (L : List Nat) (w : World) (hp : Rd w a n cap L) (hn : n ≤ 17592186044416) :
    Calls Try.prog 21 #[.slice a n cap] w fun e w' => ∃ a' c', e = .returned (.slice a' n c') ∧ Ans w' w.heap.size a' n c' (scrL L) ∧ w.grownBy w' none := by
  have HL : Hid (L.length = n) := hp.len
  have h8 := eight_ones w
  have g8 := World.grownBy_alloc w (.cells #[.int .u8 1, .int .u8 1, .int .u8 1, .int .u8 1, .int .u8 1, .int .u8 1, .int .u8 1, .int .u8 1] 5) none
  go_enter Try.func21, Try.ntmps21
  go_wp2
  go_loopw [3, 4] (fun o i wr => ∃ (j : Nat) (a' : Option Addr) (c' : Nat), 8 ≤ j ∧ (j ≤ 8 * n ∨ j = 8) ∧ i = .int .i64 (j : Nat) ∧ o = .slice a' j c' ∧ w.grownBy wr none ∧ Ans wr w.heap.size a' j c' (tab j sbN)) (fun _ i _ => 8 * n - (intOf i).toNat)
  case atStart => exact ⟨8, _, 8, by omega, .inr rfl, rfl, rfl, g8, h8⟩
  case round =>
    obtain ⟨j, a1, c1, hj8, hj, rfl, rfl, hgr1, hA1⟩ := hrel
    by_cases hjl : j < 8 * n
    · clear hj
      obtain ⟨g1, rfl⟩ : ∃ g, a1 = some ⟨g, 0, none⟩ := (hA1.cases).elim (fun h => absurd h.2.1 (by omega)) (fun h => h.elim fun g hg => ⟨g, hg.1⟩)
      have ce : ∀ m, m < j → wr.cell? ⟨g1, m, none⟩ = some (.int .u8 (sbN m : Nat)) := fun m h1 => by
        rw [← tab_nth j sbN m h1]; exact own_cell hA1.own m h1
      have cw : ∀ d m : Nat, d ≤ 8 → m = j - d → IntKind.i64.wrap ((j : Int) - (d : Int)) = (m : Int) := fun d m h1 h2 => by rw [wrap_i64_in _ (by omega) (by omega)]; omega
      obtain ⟨m1, e1⟩ : ∃ m, m = j - 1 := ⟨_, rfl⟩
      obtain ⟨m3, e3⟩ : ∃ m, m = j - 3 := ⟨_, rfl⟩
      obtain ⟨m5, e5⟩ : ∃ m, m = j - 5 := ⟨_, rfl⟩
      obtain ⟨m8, e8⟩ : ∃ m, m = j - 8 := ⟨_, rfl⟩
      have w1' : IntKind.i64.wrap ((j : Int) - 1) = (m1 : Int) := cw 1 m1 (by decide) e1
      have w3' : IntKind.i64.wrap ((j : Int) - 3) = (m3 : Int) := cw 3 m3 (by decide) e3
      have w5' : IntKind.i64.wrap ((j : Int) - 5) = (m5 : Int) := cw 5 m5 (by decide) e5
      have w8' : IntKind.i64.wrap ((j : Int) - 8) = (m8 : Int) := cw 8 m8 (by decide) e8
      have i1 : m1 < j := by omega
      have i3 : m3 < j := by omega
      have i5 : m5 < j := by omega
      have i8 : m8 < j := by omega
      have c1' := ce m1 i1
      have c3' := ce m3 i3
      have c5' := ce m5 i5
      have c8' := ce m8 i8
      have l1 := sbN_lt m1
      have l3 := sbN_lt m3
      have l5 := sbN_lt m5
      have l8 := sbN_lt m8
      have x1 := u8_xor_nat (sbN m1) (sbN m3) (by omega) (by omega)
      have y1 : sbN m1 ^^^ sbN m3 < 256 := Fld.xor_lt (by omega) (by omega)
      have x2 := u8_xor_nat (sbN m1 ^^^ sbN m3) (sbN m5) y1 (by omega)
      have y2 : (sbN m1 ^^^ sbN m3) ^^^ sbN m5 < 256 := Fld.xor_lt y1 (by omega)
      have x3 := u8_xor_nat ((sbN m1 ^^^ sbN m3) ^^^ sbN m5) (sbN m8) y2 (by omega)
      have e := sb_xor j hj8
      rw [← e1, ← e3, ← e5, ← e8] at e
      rw [e] at x3
      clear e e1 e3 e5 e8
      have hvl : sbN j < 256 := by have := sbN_lt j; omega
      have hAd : Ans wr.drew w.heap.size (some ⟨g1, 0, none⟩) j c1 (tab j sbN) := hA1.keep (grown_drew _ _)
      have hGd := grown_trans hgr1 (grown_drew wr none)
      have hsj : Hid (tab (j + 1) sbN = tab j sbN ++ [sbN j]) := tab_succ _ _
      have hjz : (8 : Int) ≤ (j : Int) := by omega
      clear ce cw
      go_wp2
      go_region_held3 (fun w' => w'.cell? ⟨g1, m1, none⟩ = some (.int .u8 (sbN m1 : Nat)) ∧ w'.cell? ⟨g1, m3, none⟩ = some (.int .u8 (sbN m3 : Nat)) ∧ w'.cell? ⟨g1, m5, none⟩ = some (.int .u8 (sbN m5 : Nat)) ∧ w'.cell? ⟨g1, m8, none⟩ = some (.int .u8 (sbN m8 : Nat))) (go_keep) (first
        | (refine step_push2 w wr.drew rfl (.tmp 15) (.tmp 39) rfl (some ⟨g1, 0, none⟩) j c1 (sbN j) w.heap.size none _ rfl hAd hGd (fun g hg => .inr (hA1.new g hg)) (Nat.le_refl _) hvl rfl (by omega) ?_; intro gx cx w2 hA2 hG2 hM2 hO2; have o1 := hO2 g1 rfl m1 i1; have o3 := hO2 g1 rfl m3 i3; have o5 := hO2 g1 rfl m5 i5; have o8 := hO2 g1 rfl m8 i8; rw [tab_nth j sbN _ i1] at o1; rw [tab_nth j sbN _ i3] at o3; rw [tab_nth j sbN _ i5] at o5; rw [tab_nth j sbN _ i8] at o8; clear hO2))
      all_goals
        go_wp2
        go_roundw
        case rel => exact ⟨j + 1, _, cx, by omega, .inl (by omega), by go_num, rfl, hG2, by rw [hsj.out]; exact hA2⟩
        case measure => simp [intOf]; omega
    · have hjn : 8 * n ≤ j := by omega
      clear hj hj8
      have hp1 := hp.keep hgr1
      go_wp2_with (at_builtin; refine wpList_clB _ rfl _ _ rfl rfl a n cap L rfl hp1 (by omega) ?_; intro ar cr w2 hgr2 hans2)
      have hR2 := hA1.keep hgr2
      have hg12 := grown_trans hgr1 hgr2
      have HM0 : Hid (L = tab n (fun k => nth L k ^^^ mskN 0 k)) := by
        show _ = _
        refine list_ext (by rw [tab_len, HL.out]) fun k hk => ?_
        rw [HL.out] at hk
        rw [tab_nth _ _ _ hk, mskN_zero, Nat.xor_zero]
      rw [HM0.out] at hans2
      have hsz1 := hgr1.size
      have hlo2 : ∀ g, (Value.slice ar n cr).ownBlock = some g → wr.heap.size ≤ g := hans2.new
      have hA1n : ∀ g, (Value.slice a1 j c1).ownBlock = some g → g < wr.heap.size := fun g hg => by
        rcases hA1.cases with ⟨rfl, _, _⟩ | ⟨g', rfl, _, h⟩
        · simp [Value.ownBlock] at hg
        · have e : g' = g := Option.some.inj hg
          omega
      have hR2' := hR2
      clear hgr2 hA1 hp1
      go_loopw [6] (fun i wx => ∃ q : Nat, q ≤ 8 * n ∧ i = .int .i64 (q : Nat) ∧ w.grownBy wx none ∧ Ans wx w.heap.size ar n cr (tab n (fun k => nth L k ^^^ mskN q k)) ∧ Ans wx w.heap.size a1 j c1 (tab j sbN)) (fun i _ => 8 * n - (intOf i).toNat)
      case atStart => exact ⟨0, by omega, rfl, hg12, hans2.wide hsz1, hR2⟩
      case round =>
        obtain ⟨q, hq, rfl, hgq, hOq, hRq⟩ := hrel
        by_cases hqn : q < 8 * n
        · obtain ⟨k, t, hkq, ht⟩ : ∃ k t : Nat, q = 8 * k + t ∧ t < 8 := ⟨q / 8, q % 8, by omega, by omega⟩
          have hkn : k < n := by omega
          obtain ⟨p, hpj⟩ : ∃ p : Nat, p + t = 7 := ⟨7 - t, by omega⟩
          obtain ⟨go, rfl⟩ : ∃ g, ar = some ⟨g, 0, none⟩ := (hOq.cases).elim (fun h => absurd h.2.1 (by omega)) (fun h => h.elim fun g hg => ⟨g, hg.1⟩)
          obtain ⟨gr, rfl⟩ : ∃ g, a1 = some ⟨g, 0, none⟩ := (hRq.cases).elim (fun h => absurd h.2.1 (by omega)) (fun h => h.elim fun g hg => ⟨g, hg.1⟩)
          have hne : gr ≠ go := by
            have h1 := hlo2 go rfl
            have h2 := hA1n gr rfl
            omega
          have co := own_cell hOq.own k hkn
          rw [tab_nth _ _ _ hkn] at co
          have cr' := own_cell hRq.own q (by omega)
          rw [tab_nth _ _ _ (by omega : q < j)] at cr'
          have fo := hOq.own.frozenAt k
          have hd1 : (q : Int) / 8 = (k : Int) := by omega
          have hd2 : (q : Int).tdiv 8 = (k : Int) := by rw [Int.tdiv_eq_ediv_of_nonneg (by omega)]; omega
          have hm1 : (q : Int) % 8 = (t : Int) := by omega
          have hm2 : (q : Int).tmod 8 = (t : Int) := by rw [Int.tmod_eq_emod_of_nonneg (by omega)]; omega
          have hs2 : IntKind.i64.wrap ((7 : Int) - (t : Int)) = (p : Int) := by rw [wrap_i64_in _ (by omega) (by omega)]; omega
          have hs3 : IntKind.i64.wrap (k : Int) = (k : Int) := by rw [wrap_i64_in _ (by omega) (by omega)]
          have hqj : q < j := by omega
          have hp8 : p < 8 := by omega
          have hsb := sbN_lt q
          have hsh : IntKind.u8.wrap ((sbN q : Int) * 2 ^ p) = ((sbN q * 2 ^ p : Nat) : Int) := shl_fact (sbN q) hsb p hp8
          have hsl : sbN q * 2 ^ p < 256 := shl_lt (sbN q) hsb p hp8
          have hml : nth L k ^^^ mskN q k < 256 := Fld.xor_lt (hp.byte.nth k) (mskN_lt q k)
          have hx := u8_xor_nat _ _ hml hsl
          rw [Nat.xor_assoc, show mskN q k ^^^ sbN q * 2 ^ p = mskN (q + 1) k from by rw [hkq, show p = 7 - t from by omega]; exact mskN_step k t ht] at hx
          have hc2 : ((sbN q * 2 ^ p : Nat) : Int) = (sbN q : Int) * 2 ^ p := by rw [Int.natCast_mul, Int.natCast_pow]; rfl
          have hx2 := hx
          rw [hc2] at hx2
          clear hc2
          have hSt := hOq.set k (nth L k ^^^ mskN (q + 1) k) (Fld.xor_lt (hp.byte.nth k) (mskN_lt _ k))
          rw [tab_set n _ (fun k' => nth L k' ^^^ mskN (q + 1) k') k _ hkn rfl (fun k' _ hne' => by rw [hkq, mskN_other k t k' ht hne'])] at hSt
          have hRs := hRq.kept (grown_set wr go k (.int .u8 (nth L k ^^^ mskN (q + 1) k : Nat))) (.inr (by simp [Value.ownBlock, hne]))
          have hgo := hOq.new go rfl
          clear hkq hpj
          go_wp2
          go_region
          all_goals
            go_wp2
            go_roundw
            case rel => exact ⟨q + 1, by omega, by go_num, grown_far hgq (grown_trans (grown_set _ _ _ _) (grown_drew _ _)) (fun g hg => by cases hg; exact hgo), hSt.keep (grown_drew _ none), hRs.keep (grown_drew _ none)⟩
            case measure => simp [intOf]; omega
        · obtain rfl : q = 8 * n := by omega
          have HS : Hid (tab n (fun k => nth L k ^^^ mskN (8 * n) k) = scrL L) := by
            show _ = _
            unfold scrL
            rw [HL.out]
            exact tab_ext n _ _ (fun k hk => by rw [mskN_all n k hk])
          rw [HS.out] at hOq
          go_wp2
          go_ret
          exact ⟨ar, cr, rfl, hOq, hgq⟩

theorem rd_news {w : World} {b off n cap : Nat} {L : List Nat} (h : Rd w (some ⟨b, off, none⟩) n cap L) (h0 : 0 < n) : ∀ j u, (bys L)[j]? = some u → w.cell? ((⟨b, off, none⟩ : Addr).add j) = some u := by
  intro j u hu
  have hj : j < L.length := by have := (List.getElem?_eq_some_iff.1 hu).1; rw [bys_length] at this; exact this
  obtain ⟨b', off', e, _, hc⟩ := h.at' h0
  cases e
  rw [nth_bys L j hj] at hu
  rw [addr_add, ← hu]
  exact hc j (by rw [← h.len]; exact hj)
theorem bys_app (A B : List Nat) : bys A ++ bys B = bys (A ++ B) := by simp [bys]
end
end Go.Proofs.Ythdjpbfknbafgaa
