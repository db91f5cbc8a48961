import Derived.Test.YthdjpbfknbafgaaLi1
import Derived.RangeFuncNested
import Derived.RangeFuncBound
import Derived.RangeFuncCalls
import Derived.RangeFuncLeaves
import Derived.RangeFuncBox
import Derived.Shelf.Abstract
import Derived.Shelf.RegionOpen
import Derived.OwnWalkIn
import Derived.TacticsInMore
import Derived.LoopNIn
import Derived.LoopIn
import Derived.Maps.AppendAt
import Derived.Laws.EntriesVeiled
namespace Go.Proofs.Ythdjpbfknbafgaa
open Go.RowKit
set_option maxRecDepth 100000
set_option linter.unusedVariables false
set_option linter.unusedSimpArgs false

section
/-- the byte that the first j bits of piece k begin -/
def jN (B : List Nat) (k : Nat) : Nat → Nat
  | 0 => 0
  | j + 1 => 2 * jN B k j + nth B (8 * k + j)
abbrev BitTo (B : List Nat) (n : Nat) : Prop := ∀ i, i < n → nth B i < 2
theorem jN_lt (B : List Nat) (k : Nat) : ∀ j, (∀ i, i < j → nth B (8 * k + i) < 2) → jN B k j < 2 ^ j := by
  intro j
  induction j with
  | zero => intro _; exact (by decide : (0 : Nat) < 1)
  | succ j ih =>
    intro h
    have h1 := ih (fun i hi => h i (by omega))
    have h2 := h j (by omega)
    show 2 * jN B k j + nth B (8 * k + j) < 2 ^ (j + 1)
    rw [Nat.pow_succ]; omega
/-! the document's Bytes -/
def bytL (B : List Nat) : List Nat := tab (B.length / 8) (fun k => jN B k 8)
def bytE (B : List Nat) : Int := if B.length % 8 ≠ 0 then 1 else if BitTo B B.length then 0 else 2
def bytR (B : List Nat) : List Nat := if bytE B = 0 then bytL B else []
/-- what of byte k there is behind i bits -/
def prtN (B : List Nat) (i k : Nat) : Nat := jN B k (min 8 (i - 8 * k)) * 2 ^ (8 - min 8 (i - 8 * k))
theorem prtN_zero (B : List Nat) (k : Nat) : prtN B 0 k = 0 := by
  unfold prtN; rw [show min 8 (0 - 8 * k) = 0 from by omega]; rfl
theorem prtN_all (B : List Nat) (n k : Nat) (h : 8 * k + 8 ≤ n) : prtN B n k = jN B k 8 := by
  unfold prtN; rw [show min 8 (n - 8 * k) = 8 from by omega]; simp
theorem prtN_other (B : List Nat) (k t k' : Nat) (ht : t < 8) (h : k' ≠ k) : prtN B (8 * k + t + 1) k' = prtN B (8 * k + t) k' := by
  unfold prtN
  rw [show min 8 (8 * k + t + 1 - 8 * k') = min 8 (8 * k + t - 8 * k') from by omega]
theorem prt_fact : ∀ t : Nat, t < 8 → ∀ v : Nat, v < 2 ^ t → ∀ b : Nat, b < 2 → bits .or .u8 ((v * 2 ^ (8 - t) : Nat) : Int) ((b : Int) * 2 ^ (7 - t)) = (((2 * v + b) * 2 ^ (7 - t) : Nat) : Int) ∧ (2 * v + b) * 2 ^ (7 - t) < 256 ∧ IntKind.u8.wrap ((b : Int) * 2 ^ (7 - t)) = (b : Int) * 2 ^ (7 - t) ∧ v * 2 ^ (8 - t) < 256 := by decide +kernel
theorem prtN_step (B : List Nat) (k t : Nat) (ht : t < 8) (hB : BitTo B (8 * k + t + 1)) :
    bits .or .u8 ((prtN B (8 * k + t) k : Nat) : Int) ((nth B (8 * k + t) : Int) * 2 ^ (7 - t)) = ((prtN B (8 * k + t + 1) k : Nat) : Int) ∧ IntKind.u8.wrap ((nth B (8 * k + t) : Int) * 2 ^ (7 - t)) = (nth B (8 * k + t) : Int) * 2 ^ (7 - t) := by
  have hv := jN_lt B k t (fun i hi => hB _ (by omega))
  have h := prt_fact t ht (jN B k t) hv (nth B (8 * k + t)) (hB _ (by omega))
  unfold prtN
  rw [show min 8 (8 * k + t - 8 * k) = t from by omega, show min 8 (8 * k + t + 1 - 8 * k) = t + 1 from by omega, show 8 - (t + 1) = 7 - t from by omega]
  exact ⟨h.1, h.2.2.1⟩
theorem prtN_lt (B : List Nat) (i k : Nat) (hB : BitTo B i) : prtN B i k < 256 := by
  unfold prtN
  have hv := jN_lt B k (min 8 (i - 8 * k)) (fun j hj => hB _ (by omega))
  have hp : 0 < 2 ^ (8 - min 8 (i - 8 * k)) := Nat.pow_pos (by decide)
  have h2 : 2 ^ (min 8 (i - 8 * k)) * 2 ^ (8 - min 8 (i - 8 * k)) = 256 := by rw [← Nat.pow_add, show min 8 (i - 8 * k) + (8 - min 8 (i - 8 * k)) = 8 from by omega]
  rw [← h2]; exact Nat.mul_lt_mul_of_pos_right hv hp
set_option maxHeartbeats 1000000 in
theorem rbytes_any (a : Option Addr) (n cap : Nat) (B : List Nat) (w : World) (hp : Rd w a n cap B) (hn : n ≤ 140737488351232) :
    Calls Try.prog 20 #[.slice a n cap] w fun e w' => ∃ a' n' c', e = .returned (.tuple #[.slice a' n' c', .int .i64 (bytE B)]) ∧ Ans w' w.heap.size a' n' c' (bytR B) ∧ w.grownBy w' none := by
  have HL : Hid (B.length = n) := hp.len
  by_cases h8 : n % 8 = 0
  · obtain ⟨m, rfl⟩ : ∃ m, n = 8 * m := ⟨n / 8, by omega⟩
    have hd1 : ((8 * m : Nat) : Int) / 8 = (m : Int) := by omega
    have hm0 : ((8 * m : Nat) : Int) % 8 = 0 := by omega
    have hd2 : (8 * (m : Int)) / 8 = (m : Int) := by omega
    have hm2 : (8 * (m : Int)) % 8 = 0 := by omega
    go_enter Try.func20, Try.ntmps20
    go_wp2_with (at_make; refine wpList_mkB _ rfl _ _ rfl _ _ m rfl rfl (by omega) (by omega) (by omega) ?_; intro w1 hb1 hg1)
    rw [tab_zero m (fun k => prtN B 0 k) (fun k _ => prtN_zero B k)] at hb1
    go_loopw [5] (fun i wr => ∃ q : Nat, q ≤ 8 * m ∧ i = .int .i64 (q : Nat) ∧ w.grownBy wr none ∧ Blk wr w.heap.size (tab m (fun k => prtN B q k)) ∧ Hid (BitTo B q)) (fun i _ => 8 * m - (intOf i).toNat)
    case atStart => exact ⟨0, by omega, rfl, hg1, hb1, show BitTo B 0 from fun i hi => absurd hi (by omega)⟩
    case round =>
      obtain ⟨q, hq, rfl, hgr, hB, HQ⟩ := hrel
      by_cases hqn : q < 8 * m
      · obtain ⟨b, off, rfl, hbw, hcc⟩ := (hp.keep hgr).at' (by omega)
        have hcq := hcc q hqn
        clear hcc
        by_cases hbit : nth B q < 2
        · have HQ1 : Hid (BitTo B (q + 1)) := show BitTo B (q + 1) from fun i hi => by
            by_cases e : i = q
            · rw [e]; exact hbit
            · exact HQ.out i (by omega)
          obtain ⟨k, t, hkq, ht⟩ : ∃ k t : Nat, q = 8 * k + t ∧ t < 8 := ⟨q / 8, q % 8, by omega, by omega⟩
          have hkn : k < m := by omega
          obtain ⟨p, hpj⟩ : ∃ p : Nat, p = 7 - t := ⟨_, rfl⟩
          have hst := prtN_step B k t ht (by rw [← hkq]; exact HQ1.out)
          rw [← hkq, ← hpj] at hst
          obtain ⟨hor, hsh⟩ := hst
          have co := hB.cell k (by rw [tab_len]; exact hkn)
          rw [tab_nth _ _ _ hkn] at co
          have fo := hB.free k
          have e1 : (q : Int) / 8 = (k : Int) := by omega
          have e2 : (q : Int).tdiv 8 = (k : Int) := by rw [Int.tdiv_eq_ediv_of_nonneg (by omega)]; omega
          have e3 : (q : Int) % 8 = (t : Int) := by omega
          have e4 : (q : Int).tmod 8 = (t : Int) := by rw [Int.tmod_eq_emod_of_nonneg (by omega)]; omega
          have e5 : IntKind.i64.wrap ((7 : Int) - (t : Int)) = (p : Int) := by rw [wrap_i64_in _ (by omega) (by omega)]; omega
          have e6 : IntKind.i64.wrap (k : Int) = (k : Int) := by rw [wrap_i64_in _ (by omega) (by omega)]
          have hp8 : p < 8 := by omega
          have hBs := hB.set k (prtN B (q + 1) k)
          rw [tab_set m _ (fun k' => prtN B (q + 1) k') k _ hkn rfl (fun k' _ hne' => by rw [hkq, prtN_other B k t k' ht hne'])] at hBs
          have hgs : w.grownBy (wr.setCell ⟨w.heap.size, k, none⟩ (.int .u8 (prtN B (q + 1) k : Nat))).drew none := grown_far hgr (grown_trans (grown_set _ _ _ _) (grown_drew _ _)) (fun g hg => by cases hg; exact Nat.le_refl _)
          have hbq : b ≠ w.heap.size := by
            obtain ⟨b', off', e, hb', _⟩ := hp.at' (by omega)
            cases e; omega
          clear hkq hpj hp hd1 hm0 hd2 hm2
          go_wp2
          go_region
          all_goals
            go_wp2
            go_roundw
            case rel => exact ⟨q + 1, by omega, by go_num, hgs, hBs.grown (grown_drew _ none) (by simp), HQ1⟩
            case measure => simp [intOf]; omega
        · have HE : Hid (bytE B = 2) := by
            show _ = _
            unfold bytE
            rw [HL.out, if_neg (by omega), if_neg (fun h => hbit (h q hqn))]
          have HR : Hid (bytR B = []) := by show _ = _; unfold bytR; rw [HE.out, if_neg (by decide)]
          go_wp2
          go_ret2
          exact ⟨none, 0, 0, by rw [HE.out]; rfl, by rw [HR.out]; exact ans_nil _ _, hgr⟩
      · obtain rfl : q = 8 * m := by omega
        have HE : Hid (bytE B = 0) := by
          show _ = _
          unfold bytE
          rw [HL.out, if_neg (by omega), if_pos HQ.out]
        have HR : Hid (bytR B = tab m (fun k => prtN B (8 * m) k)) := by
          show _ = _
          unfold bytR bytL
          rw [HE.out, if_pos rfl, HL.out, show 8 * m / 8 = m from by omega]
          exact tab_ext m _ _ (fun k hk => (prtN_all B (8 * m) k (by omega)).symm)
        have hans := hB.ans (n := m) (lo := w.heap.size) (tab_isB _ _ (fun k => prtN_lt B _ k HQ.out)) (by rw [tab_len]; exact Nat.le_refl _) (by rw [tab_len]; unfold maxLen; omega) (Nat.le_refl _)
        rw [tab_len, List.take_of_length_le (by rw [tab_len]; exact Nat.le_refl _)] at hans
        go_wp2
        go_ret2
        exact ⟨_, _, _, by rw [HE.out]; rfl, by rw [HR.out]; exact hans, hgr⟩
  · have HE : Hid (bytE B = 1) := by show _ = _; unfold bytE; rw [HL.out, if_pos h8]
    have HR : Hid (bytR B = []) := by show _ = _; unfold bytR; rw [HE.out, if_neg (by decide)]
    have hr : (((n : Int) % 8) == 0) = false := by simp; omega
    go_enter Try.func20, Try.ntmps20
    go_wp2
    go_ret2
    exact ⟨none, 0, 0, by rw [HE.out]; rfl, by rw [HR.out]; exact ans_nil _ _, World.grownBy.refl _ _⟩
end

section
open Go.RowKit Go.Shelf
attribute [local go_sem] Oper.semAt_some

/-- the blocks that p names lie as they lay -/
def KeepB (p : Nat → Prop) (W W' : World) : Prop := ∀ k, p k → W'.heap[k]? = W.heap[k]?
theorem KeepB.refl (p : Nat → Prop) (W : World) : KeepB p W W := fun _ _ => rfl
theorem KeepB.trans {p : Nat → Prop} {A B C : World} (h : KeepB p A B) (k : KeepB p B C) : KeepB p A C := fun i hi => (k i hi).trans (h i hi)
theorem KeepB.cell {p : Nat → Prop} {W W' : World} (h : KeepB p W W') {a : Addr} (ha : p a.block) : W'.cell? a = W.cell? a := World.cell?_of_block (h _ ha)
theorem KeepB.put {p : Nat → Prop} {w : World} (hp : ∀ k, p k → k < w.heap.size) (W : World) (l : Nat) (o o' : Obj) (hl : w.heap.size ≤ l) (_ : W.heap[l]? = some o) (_ : o.isCells = false) (_ : o.isWalk = false) : KeepB p W (W.putObj l o') :=
  fun k hk => World.putObj_heap_other (by have := hp k hk; omega)
end

section
open Go.RowKit Go.Shelf
attribute [local go_sem] Oper.semAt_some

theorem boxed_from {W W' : World} {row : Option Nat} {B k : Nat} {t : TypeId} {v : Value} (h : Boxed W B t v) (hg : W.grownBy W' row) (hr : ∀ r, row = some r → k ≤ r ∧ ∃ o : Obj, W.heap[r]? = some o ∧ o.isCells = false) : Boxed W' B t v :=
  h.kept hg (fun e => by
    obtain ⟨_, o, ho, hc⟩ := hr B e.symm
    rw [show W.heap[B]? = _ from h] at ho; cases ho; cases hc)
theorem row_from {W W' : World} {row : Option Nat} {base e size n k : Nat} {v : Value} {xs : List Value} (h : W.ownsRow base e size v n xs) (hg : W.grownBy W' row) (hr : ∀ r, row = some r → k ≤ r ∧ ∃ o : Obj, W.heap[r]? = some o ∧ o.isCells = false) : W'.ownsRow base e size v n xs := by
  refine h.kept hg ?_
  rcases h.2 with ⟨rfl, _⟩ | ⟨g, cap, cur, rfl, _, hgb, _⟩
  · exact .inl rfl
  · refine .inr fun e' => ?_
    obtain ⟨_, o, ho, hc⟩ := hr g e'.symm
    rw [hgb] at ho; cases ho; cases hc
end

section
def pop32 (x : Nat) : Nat := pop8 (x / 16777216) + pop8 (x / 65536 % 256) + pop8 (x / 256 % 256) + pop8 (x % 256)
theorem pop8_le (x : Nat) : pop8 x ≤ 8 := by unfold pop8; omega
set_option maxHeartbeats 2000000 in
theorem ones32_any (x : Nat) (hx : x < 4294967296) (w : World) : Calls Try.prog 39 #[.int .u32 x] w fun e w' => e = .returned (.int .i64 (pop32 x : Nat)) ∧ ∃ q, w' = w.drewN q := by
  obtain ⟨a, ha⟩ : ∃ a, a = x / 16777216 := ⟨_, rfl⟩
  obtain ⟨b, hb⟩ : ∃ b, b = x / 65536 % 256 := ⟨_, rfl⟩
  obtain ⟨c, hc⟩ : ∃ c, c = x / 256 % 256 := ⟨_, rfl⟩
  obtain ⟨d, hd⟩ : ∃ d, d = x % 256 := ⟨_, rfl⟩
  have HP : Hid (pop32 x = pop8 a + pop8 b + pop8 c + pop8 d) := by rw [ha, hb, hc, hd]; exact rfl
  have la : a < 256 := by omega
  have lb : b < 256 := by omega
  have lc : c < 256 := by omega
  have ld : d < 256 := by omega
  have e1 : bits .and .u32 ((x : Int) / 65536) 255 = (b : Int) := by
    have := u32_and_nat (x / 65536) 255 (by omega) (by decide)
    rw [show ((x / 65536 : Nat) : Int) = (x : Int) / 65536 from by omega] at this
    rw [show (255 : Int) = ((255 : Nat) : Int) from rfl, this, hb]
    exact congrArg _ (Nat.and_two_pow_sub_one_eq_mod (x / 65536) 8)
  have e2 : bits .and .u32 ((x : Int) / 256) 255 = (c : Int) := by
    have := u32_and_nat (x / 256) 255 (by omega) (by decide)
    rw [show ((x / 256 : Nat) : Int) = (x : Int) / 256 from by omega] at this
    rw [show (255 : Int) = ((255 : Nat) : Int) from rfl, this, hc]
    exact congrArg _ (Nat.and_two_pow_sub_one_eq_mod (x / 256) 8)
  have e3 : bits .and .u32 (x : Int) 255 = (d : Int) := by
    have := u32_and_nat x 255 (by omega) (by decide)
    rw [show (255 : Int) = ((255 : Nat) : Int) from rfl, this, hd]
    exact congrArg _ (Nat.and_two_pow_sub_one_eq_mod x 8)
  have e0 : (x : Int) / 16777216 = (a : Int) := by omega
  clear hx ha hb hc hd
  go_enter Try.func39, Try.ntmps39
  go_wp2
  generalize htb : (ByteArray.mk _ : ByteArray) = tb
  have hsz : tb.size = 256 := by rw [← htb]; rfl
  have htv : ∀ (i : Nat) (h : i < tb.size), tb[i].toNat = pop8 i := by
    intro i h
    subst htb
    revert i
    decide +kernel
  clear htb
  have p1 := pop8_le a
  have p2 := pop8_le b
  have p3 := pop8_le c
  have p4 := pop8_le d
  go_quiet (fail)
  go_wp2
  go_ret
  exact ⟨congrArg (fun z => Ending.returned (Value.int .i64 z)) (by rw [HP.out]; omega), nq, rfl⟩
theorem ones32_int (z : Int) (x : Nat) (hz : z = (x : Int)) (hx : x < 4294967296) (w : World) : Calls Try.prog 39 #[.int .u32 z] w fun e w' => e = .returned (.int .i64 (pop32 x : Nat)) ∧ ∃ q, w' = w.drewN q := by
  subst hz; exact ones32_any x hx w
theorem xor_lt32 {a b : Nat} (ha : a < 4294967296) (hb : b < 4294967296) : a ^^^ b < 4294967296 := Nat.xor_lt_two_pow (n := 32) ha hb
theorem not32 (v : Nat) (hv : v < 4294967296) : bits .xor .u32 (if IntKind.u32.signed = true then -1 else IntKind.u32.max) (v : Int) = ((4294967295 - v : Nat) : Int) := by
  have e : (if IntKind.u32.signed = true then (-1 : Int) else IntKind.u32.max) = ((4294967295 : Nat) : Int) := by decide
  rw [e, u32_xor_nat _ _ (by decide) hv]
  refine congrArg _ (Nat.eq_of_testBit_eq fun i => ?_)
  rw [Nat.testBit_xor, show 4294967295 - v = 2 ^ 32 - (v + 1) from by omega, Nat.testBit_two_pow_sub_succ (by exact hv), show 4294967295 = 2 ^ 32 - 1 from rfl, Nat.testBit_two_pow_sub_one]
  by_cases h : i < 32
  · simp [h]
  · have : v.testBit i = false := Nat.testBit_lt_two_pow (Nat.lt_of_lt_of_le hv (Nat.pow_le_pow_right (show 0 < 2 by decide) (by omega : 32 ≤ i)))
    simp [h, this]
/-! one who listens, in memory -/
def syA (L F H M k : Nat) (lk : Bool) (tk la p : Nat) (tu : Bool) (mi : Nat) (d : Value) : Array Value :=
  #[.int .i64 L, .int .i64 F, .int .i64 H, .int .i64 M, .func (.func k) #[] #[], .bool lk, .int .i64 tk, .int .u64 la, .int .i64 p, .bool tu, .int .i64 mi, d]
def SyB (w : World) (g : Nat) (L F H M k : Nat) (lk : Bool) (tk la p : Nat) (tu : Bool) (mi : Nat) (d : Value) : Prop := w.heap[g]? = some (.cells (syA L F H M k lk tk la p tu mi d) 65)
theorem SyB.lt {w : World} {g L F H M k : Nat} {lk : Bool} {tk la p : Nat} {tu : Bool} {mi : Nat} {d : Value} (h : SyB w g L F H M k lk tk la p tu mi d) : g < w.heap.size := (Array.getElem?_eq_some_iff.1 h).1
theorem SyB.c {w : World} {g L F H M k : Nat} {lk : Bool} {tk la p : Nat} {tu : Bool} {mi : Nat} {d : Value} (h : SyB w g L F H M k lk tk la p tu mi d) (i : Nat) (v : Value) (hv : (syA L F H M k lk tk la p tu mi d)[i]? = some v) : w.cell? ⟨g, i, none⟩ = some v := by rw [cell_of_row w g i _ _ _ h]; exact hv
theorem SyB.f {w : World} {g L F H M k : Nat} {lk : Bool} {tk la p : Nat} {tu : Bool} {mi : Nat} {d : Value} (h : SyB w g L F H M k lk tk la p tu mi d) (i : Nat) : w.frozen? ⟨g, i, none⟩ = false := frozen_of_row w g i _ _ h
theorem SyB.kept {w w' : World} {g L F H M k : Nat} {lk : Bool} {tk la p : Nat} {tu : Bool} {mi : Nat} {d : Value} {o : Option Nat} (h : SyB w g L F H M k lk tk la p tu mi d) (hg : w.grownBy w' o) (hne : some g ≠ o) : SyB w' g L F H M k lk tk la p tu mi d := by
  unfold SyB; rw [hg.block g h.lt hne]; exact h
theorem SyB.keep {w w' : World} {g L F H M k : Nat} {lk : Bool} {tk la p : Nat} {tu : Bool} {mi : Nat} {d : Value} (h : SyB w g L F H M k lk tk la p tu mi d) (hg : w.grownBy w' none) : SyB w' g L F H M k lk tk la p tu mi d := h.kept hg (by simp)
/-- how many of 32 bits are wrong -/
def wrV (la k : Nat) (t : Bool) : Nat := pop32 ((if t then 4294967295 - la / 2 ^ k % 4294967296 else la / 2 ^ k % 4294967296) ^^^ 449838109)
set_option maxHeartbeats 2000000 in
theorem wrong_any (g L F H M k : Nat) (lk : Bool) (tk la p : Nat) (tu : Bool) (mi : Nat) (d : Value) (z : Int) (q s : Nat) (t : Bool) (hz : z = (q : Int)) (hs : tk = q + 32 + s) (hs2 : s ≤ 31) (htk : tk ≤ 4611686018427387904) (hla : la < 18446744073709551616) (w : World) (h : SyB w g L F H M k lk tk la p tu mi d) :
    Calls Try.prog 36 #[.pointer (some ⟨g, 0, none⟩), .int .i64 z, .bool t] w fun e w' => e = .returned (.int .i64 (wrV la s t : Nat)) ∧ ∃ n, w' = w.drewN n := by
  subst hz
  have c6 := h.c 6 (.int .i64 tk) rfl
  have c7 := h.c 7 (.int .u64 la) rfl
  have hk1 : IntKind.i64.wrap (IntKind.i64.wrap ((tk : Int) - (q : Int)) - 32) = (s : Int) := by rw [wrap_i64_in ((tk : Int) - (q : Int)) (by omega) (by omega), wrap_i64_in _ (by omega) (by omega)]; omega
  have hk2 : (tk : Int) - (q : Int) - 32 = (s : Int) := by omega
  have hk3 : IntKind.i64.wrap ((tk : Int) - (q : Int)) = ((s + 32 : Nat) : Int) := by rw [wrap_i64_in ((tk : Int) - (q : Int)) (by omega) (by omega)]; omega
  have hv : la / 2 ^ s % 4294967296 < 4294967296 := Nat.mod_lt _ (by decide)
  have HW : Hid (wrV la s t = pop32 ((if t then 4294967295 - la / 2 ^ s % 4294967296 else la / 2 ^ s % 4294967296) ^^^ 449838109)) := rfl
  have hc : (la : Int) / 2 ^ s % 4294967296 = ((la / 2 ^ s % 4294967296 : Nat) : Int) := by
    rw [Int.natCast_emod, Int.natCast_ediv, Int.natCast_pow]; rfl
  generalize la / 2 ^ s % 4294967296 = v at *
  clear hs
  cases t
  · have hxl : v ^^^ 449838109 < 4294967296 := xor_lt32 hv (by decide)
    have hx : bits .xor .u32 (v : Int) 449838109 = ((v ^^^ 449838109 : Nat) : Int) := u32_xor_nat v 449838109 hv (by decide)
    simp only [Bool.false_eq_true, if_false] at HW
    go_enter Try.func36, Try.ntmps36
    go_wp2
    go_quiet (fail)
    go_wp2_with (go_at_call 39; refine (ones32_int _ (v ^^^ 449838109) (by first | rfl | (rw [hc, hx])) hxl _).mono ?_; rintro e w2 ⟨rfl, n2, rfl⟩)
    go_ret
    exact ⟨by rw [HW.out]; rfl, _, rfl⟩
  · have hnl : 4294967295 - v < 4294967296 := by omega
    have hxl : (4294967295 - v) ^^^ 449838109 < 4294967296 := xor_lt32 hnl (by decide)
    have hx : bits .xor .u32 ((4294967295 - v : Nat) : Int) 449838109 = (((4294967295 - v) ^^^ 449838109 : Nat) : Int) := u32_xor_nat (4294967295 - v) 449838109 hnl (by decide)
    have hn : bits .xor .u32 (if IntKind.u32.signed = true then -1 else IntKind.u32.max) (v : Int) = ((4294967295 - v : Nat) : Int) := not32 v hv
    simp only [if_true] at HW
    go_enter Try.func36, Try.ntmps36
    go_wp2
    go_quiet (fail)
    go_wp2_with (go_at_call 39; refine (ones32_int _ ((4294967295 - v) ^^^ 449838109) (by first | rfl | (rw [hn, hx]) | (rw [hc, hn, hx])) hxl _).mono ?_; rintro e w2 ⟨rfl, n2, rfl⟩)
    go_ret
    exact ⟨by rw [HW.out]; rfl, _, rfl⟩
end

section
/-- a store of one value into one who listens -/
theorem wpList_stS (w : World) {ops : Array Oper} {rest : List Oper} {o : Oper} {a : Act} {Q : Exit → Act → World → Prop} (hg : o.guard = none) (t : TypeId) (p x : Operand) (hop : o.op = Op.store t p x)
    (g i : Nat) (A A' : Array Value) (v : Value) (hp : a.eval p = .pointer (some ⟨g, i, none⟩)) (hx : a.eval x = v) (hB : w.heap[g]? = some (.cells A 65))
    (hst : ∀ w' : World, (∃ u, w'.cell? ⟨g, i, none⟩ = some u) → w'.frozen? ⟨g, i, none⟩ = false → (Instr.storeAt t (.pointer (some ⟨g, i, none⟩)) v).run Try.prog w' = .ok () (w'.setCell ⟨g, i, none⟩ v)) (hi : i < A.size) (hA : A.setIfInBounds i v = A')
    (hK : ∀ w', w'.heap[g]? = some (.cells A' 65) → w.grownBy w' (some g) → wpList Try.prog ops Q rest (a.put o.dst undef) w') :
    wpList Try.prog ops Q (o :: rest) a w := by
  refine wpList_plain hg fun K hK' => ?_
  have hc : ∃ u, w.cell? ⟨g, i, none⟩ = some u := ⟨A[i], by rw [cell_of_row w g i _ _ _ hB]; simp [hi]⟩
  have hf := frozen_of_row w g i _ _ hB
  unfold Oper.wp
  simp [execOp, hop, hp, hx, hst w hc hf, Result.andThen]
  exact hK' _ _ (hK _ (by rw [heap_setCell_same w g i _ _ _ hB, hA]) (grown_set w g i v))
theorem st_int (g i : Nat) (n : Int) (w : World) (hc : ∃ u, w.cell? ⟨g, i, none⟩ = some u) (hf : w.frozen? ⟨g, i, none⟩ = false) : (Instr.storeAt 3 (.pointer (some ⟨g, i, none⟩)) (.int .i64 n)).run Try.prog w = .ok () (w.setCell ⟨g, i, none⟩ (.int .i64 n)) := by
  obtain ⟨u, hc⟩ := hc
  simp [go_sem, hc, hf]
theorem st_bool (g i : Nat) (b : Bool) (w : World) (hc : ∃ u, w.cell? ⟨g, i, none⟩ = some u) (hf : w.frozen? ⟨g, i, none⟩ = false) : (Instr.storeAt 4 (.pointer (some ⟨g, i, none⟩)) (.bool b)).run Try.prog w = .ok () (w.setCell ⟨g, i, none⟩ (.bool b)) := by
  obtain ⟨u, hc⟩ := hc
  simp [go_sem, hc, hf]
theorem st_u64 (g i : Nat) (n : Int) (w : World) (hc : ∃ u, w.cell? ⟨g, i, none⟩ = some u) (hf : w.frozen? ⟨g, i, none⟩ = false) : (Instr.storeAt 63 (.pointer (some ⟨g, i, none⟩)) (.int .u64 n)).run Try.prog w = .ok () (w.setCell ⟨g, i, none⟩ (.int .u64 n)) := by
  obtain ⟨u, hc⟩ := hc
  simp [go_sem, hc, hf]
theorem st_sl (g i : Nat) (p : Option Addr) (l c : Nat) (w : World) (hc : ∃ u, w.cell? ⟨g, i, none⟩ = some u) (hf : w.frozen? ⟨g, i, none⟩ = false) : (Instr.storeAt 25 (.pointer (some ⟨g, i, none⟩)) (.slice p l c)).run Try.prog w = .ok () (w.setCell ⟨g, i, none⟩ (.slice p l c)) := by
  obtain ⟨u, hc⟩ := hc
  simp [go_sem, hc, hf]
theorem st_fn (g i k : Nat) (w : World) (hc : ∃ u, w.cell? ⟨g, i, none⟩ = some u) (hf : w.frozen? ⟨g, i, none⟩ = false) : (Instr.storeAt 62 (.pointer (some ⟨g, i, none⟩)) (.func (.func k) #[] #[])).run Try.prog w = .ok () (w.setCell ⟨g, i, none⟩ (.func (.func k) #[] #[])) := by
  obtain ⟨u, hc⟩ := hc
  simp [go_sem, hc, hf]
section
variable (L F H M k : Nat) (lk : Bool) (tk la p : Nat) (tu : Bool) (mi : Nat) (d : Value)
theorem sy4 (k' : Nat) : (syA L F H M k lk tk la p tu mi d).setIfInBounds 4 (.func (.func k') #[] #[]) = syA L F H M k' lk tk la p tu mi d := rfl
theorem sy5 (b : Bool) : (syA L F H M k lk tk la p tu mi d).setIfInBounds 5 (.bool b) = syA L F H M k b tk la p tu mi d := rfl
theorem sy6 (n : Nat) : (syA L F H M k lk tk la p tu mi d).setIfInBounds 6 (.int .i64 n) = syA L F H M k lk n la p tu mi d := rfl
theorem sy7 (n : Nat) : (syA L F H M k lk tk la p tu mi d).setIfInBounds 7 (.int .u64 n) = syA L F H M k lk tk n p tu mi d := rfl
theorem sy8 (n : Nat) : (syA L F H M k lk tk la p tu mi d).setIfInBounds 8 (.int .i64 n) = syA L F H M k lk tk la n tu mi d := rfl
theorem sy9 (b : Bool) : (syA L F H M k lk tk la p tu mi d).setIfInBounds 9 (.bool b) = syA L F H M k lk tk la p b mi d := rfl
theorem sy10 (n : Nat) : (syA L F H M k lk tk la p tu mi d).setIfInBounds 10 (.int .i64 n) = syA L F H M k lk tk la p tu n d := rfl
theorem sy11 (v : Value) : (syA L F H M k lk tk la p tu mi d).setIfInBounds 11 v = syA L F H M k lk tk la p tu mi v := rfl
theorem syS : (syA L F H M k lk tk la p tu mi d).size = 12 := rfl
end
set_option maxHeartbeats 1000000 in
theorem search_any (g L F H M k : Nat) (lk : Bool) (tk la p : Nat) (tu : Bool) (mi : Nat) (d : Value) (z : Int) (q : Nat) (hz : z = (q : Int)) (w : World) (h : SyB w g L F H M k lk tk la p tu mi d) :
    Calls Try.prog 25 #[.pointer (some ⟨g, 0, none⟩), .int .i64 z] w fun e w' => e = .returned (.tuple #[]) ∧ SyB w' g L F H M 32 false tk la q false 0 d ∧ w.grownBy w' (some g) := by
  subst hz
  go_enter Try.func25, Try.ntmps25
  have t1 : True := trivial
  go_wp2_with (first
    | (have _t := t1; clear t1; refine wpList_stS _ rfl _ (.tmp 8) (.tmp 6) rfl g 8 _ _ _ rfl rfl h (st_int g 8 _) (by rw [syS]; decide) (sy8 ..) ?_; intro w1 h1 g1; clear h; have t2 : True := trivial)
    | (have _t := t2; clear t2; refine wpList_stS _ rfl _ (.tmp 10) (.const (.bool false)) rfl g 5 _ _ _ rfl rfl h1 (st_bool g 5 _) (by rw [syS]; decide) (sy5 ..) ?_; intro w2 h2 g2; clear h1; have t3 : True := trivial)
    | (have _t := t3; clear t3; refine wpList_stS _ rfl _ (.tmp 14) (.const (.bool false)) rfl g 9 _ _ _ rfl rfl h2 (st_bool g 9 _) (by rw [syS]; decide) (sy9 ..) ?_; intro w3 h3 g3; clear h2; have t4 : True := trivial)
    | (have _t := t4; clear t4; refine wpList_stS _ rfl _ (.tmp 16) (.const (.int .i64 0)) rfl g 10 _ _ _ rfl rfl h3 (st_int g 10 _) (by rw [syS]; decide) (sy10 (n := 0) ..) ?_; intro w4 h4 g4; clear h3; have t5 : True := trivial)
    | (have _t := t5; clear t5; refine wpList_stS _ rfl _ (.tmp 19) (.func 32) rfl g 4 _ _ _ rfl rfl h4 (st_fn g 4 _) (by rw [syS]; decide) (sy4 ..) ?_; intro w5 h5 g5; clear h4))
  go_end0
  exact ⟨rfl, h5, grown_trans g1 (grown_trans g2 (grown_trans g3 (grown_trans g4 g5)))⟩
set_option maxHeartbeats 1000000 in
theorem begin_any (g L F H M k : Nat) (lk : Bool) (tk la p : Nat) (tu : Bool) (mi : Nat) (d : Value) (z y : Int) (q m : Nat) (t : Bool) (hz : z = (q : Int)) (hy : y = (m : Int)) (hL : L ≤ 2048) (w : World) (h : SyB w g L F H M k lk tk la p tu mi d) :
    Calls Try.prog 37 #[.pointer (some ⟨g, 0, none⟩), .int .i64 z, .bool t, .int .i64 y] w fun e w' => e = .returned (.tuple #[]) ∧ ∃ gd, w.heap.size ≤ gd ∧ SyB w' g L F H M 40 true tk la q t m (.slice (some ⟨gd, 0, none⟩) 0 L) ∧ w'.ownsRow 0 5 1 (.slice (some ⟨gd, 0, none⟩) 0 L) 0 [] ∧ w.grownBy w' (some g) := by
  subst hz; subst hy
  obtain ⟨i0, hi, hz0, hz1, hz2⟩ := info_parts Try.info_u8
  have h4c : ∀ w', SyB w' g L F H M k true tk la q t m d → w'.cell? ⟨g, 0, none⟩ = some (.int .i64 L) := fun w' h => h.c 0 (.int .i64 L) rfl
  have hgl := h.lt
  have t1 : True := trivial
  go_enter Try.func37, Try.ntmps37
  go_wp2_with (first
    | (have _t := t1; clear t1; refine wpList_stS _ rfl _ (.tmp 12) (.tmp 10) rfl g 8 _ _ _ rfl rfl h (st_int g 8 _) (by rw [syS]; decide) (sy8 ..) ?_; intro w1 h1 g1; have t2 : True := trivial)
    | (have _t := t2; clear t2; refine wpList_stS _ rfl _ (.tmp 14) (.const (.bool true)) rfl g 5 _ _ _ rfl rfl h1 (st_bool g 5 _) (by rw [syS]; decide) (sy5 ..) ?_; intro w2 h2 g2; have t3 : True := trivial)
    | (have _t := t3; clear t3; refine wpList_stS _ rfl _ (.tmp 20) (.tmp 17) rfl g 9 _ _ _ rfl rfl h2 (st_bool g 9 _) (by rw [syS]; decide) (sy9 ..) ?_; intro w3 h3 g3; have t4 : True := trivial)
    | (have _t := t4; clear t4; refine wpList_stS _ rfl _ (.tmp 22) (.tmp 18) rfl g 10 _ _ _ rfl rfl h3 (st_int g 10 _) (by rw [syS]; decide) (sy10 ..) ?_; intro w4 h4 g4; have c0 := h4c w4 h4; have t5 : True := trivial)
    | (at_make; have _t := t5; clear t5; refine wpList_make_own _ rfl _ _ 25 rfl 0 5 i0 (.int .u8 0) 1 Try.underlying25 hi hz0 hz1 .i64 .i64 (L : Int) L rfl rfl rfl (by rw [hz2]; omega) (by unfold maxLen; omega) (Nat.zero_le _) ?_; intro w5 hown5 g5; have h5 := SyB.keep (k := k) (lk := true) (tk := tk) (la := la) (p := q) (tu := t) (mi := m) (d := d) h4 g5; have t6 : True := trivial)
    | (have _t := t6; clear t6; refine wpList_stS _ rfl _ (.tmp 31) (.tmp 29) rfl g 11 _ _ _ rfl rfl h5 (st_sl g 11 _ _ _) (by rw [syS]; decide) (sy11 ..) ?_; intro w6 h6 g6; have t7 : True := trivial)
    | (have _t := t7; clear t7; refine wpList_stS _ rfl _ (.tmp 34) (.func 40) rfl g 4 _ _ _ rfl rfl h6 (st_fn g 4 _) (by rw [syS]; decide) (sy4 ..) ?_; intro w7 h7 g7))
  go_end0
  have g04 := grown_trans g1 (grown_trans g2 (grown_trans g3 g4))
  have hsz := g04.size
  have hne : some g ≠ some w4.heap.size := by simp; omega
  have r6 := hown5.kept g6 (.inr (by simp only [Value.ownBlock]; exact fun e => hne e.symm))
  have r7 := r6.kept g7 (.inr (by simp only [Value.ownBlock]; exact fun e => hne e.symm))
  exact ⟨rfl, _, hsz, h7, r7, grown_trans g04 (grown_trans (grown_weak g5 _) (grown_trans g6 g7))⟩
set_option maxHeartbeats 1000000 in
theorem expect_any (g L F H M k : Nat) (lk : Bool) (tk la p : Nat) (tu : Bool) (mi : Nat) (d : Value) (w : World) (h : SyB w g L F H M k lk tk la p tu mi d) :
    Calls Try.prog 42 #[.pointer (some ⟨g, 0, none⟩)] w fun e w' => e = .returned (.tuple #[]) ∧ SyB w' g L F H M 43 lk tk la tk tu mi (.slice none 0 0) ∧ w.grownBy w' (some g) := by
  have c6 := h.c 6 (.int .i64 tk) rfl
  have t1 : True := trivial
  go_enter Try.func42, Try.ntmps42
  go_wp2_with (first
    | (have _t := t1; clear t1; refine wpList_stS _ rfl _ (.tmp 9) (.tmp 7) rfl g 8 _ _ _ rfl rfl h (st_int g 8 _) (by rw [syS]; decide) (sy8 ..) ?_; intro w1 h1 g1; have t2 : True := trivial)
    | (have _t := t2; clear t2; refine wpList_stS _ rfl _ (.tmp 11) (.const (.slice none 0 0)) rfl g 11 _ _ _ rfl rfl h1 (st_sl g 11 _ _ _) (by rw [syS]; decide) (sy11 ..) ?_; intro w2 h2 g2; have t3 : True := trivial)
    | (have _t := t3; clear t3; refine wpList_stS _ rfl _ (.tmp 14) (.func 43) rfl g 4 _ _ _ rfl rfl h2 (st_fn g 4 _) (by rw [syS]; decide) (sy4 ..) ?_; intro w3 h3 g3))
  go_end0
  exact ⟨rfl, h3, grown_trans g1 (grown_trans g2 g3)⟩
end
end Go.Proofs.Ythdjpbfknbafgaa
