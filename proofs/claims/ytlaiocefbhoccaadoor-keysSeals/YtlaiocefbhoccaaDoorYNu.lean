import Derived.Test.YtlaiocefbhoccaaDoorFSums
import Derived.Laws.BitsAllLaws
namespace Go.Proofs.YtlaiocefbhoccaaDoor
open Go.RowKit
set_option maxRecDepth 100000
set_option linter.unusedVariables false
set_option linter.unusedSimpArgs false
/-- the number of the first k bytes, the highest first -/
def nuN (L : List Nat) : Nat → Nat
  | 0 => 0
  | k + 1 => nuN L k * 256 + nth L k
theorem nuN_lt {L : List Nat} (h : IsB L) (k : Nat) : nuN L k < 256 ^ k := by
  induction k with
  | zero => exact (by decide : (0 : Nat) < 1)
  | succ k ih =>
    have hb := h.nth k
    show nuN L k * 256 + nth L k < 256 ^ (k + 1)
    rw [Nat.pow_succ]
    have : (nuN L k + 1) * 256 ≤ 256 ^ k * 256 := Nat.mul_le_mul_right _ ih
    omega
theorem pow_seven (k : Nat) (h : k < 8) : 256 ^ k ≤ 72057594037927936 := by
  have := Nat.pow_le_pow_right (n := 256) (by decide) (show k ≤ 7 by omega)
  exact Nat.le_trans this (by decide)
theorem or_byte (v b : Nat) (hv : v < 72057594037927936) (hb : b < 256) : bits .or .u64 ((v : Int) * 256) (b : Int) = ((v * 256 + b : Nat) : Int) := by
  have := u64_or_nat (v * 256) b (by omega) (by omega)
  rw [show ((v * 256 : Nat) : Int) = (v : Int) * 256 by omega] at this
  rw [this]
  have h3 := Nat.two_pow_add_eq_or_of_lt (i := 8) (b := b) (by omega) v
  rw [show 2 ^ 8 * v = v * 256 by omega] at h3
  rw [← h3]
theorem number_any (a : Option Addr) (n cap : Nat) (L : List Nat) (w : World) (hp : Rd w a n cap L) (hn : n ≤ 8) :
    Calls Tryd.prog 47 #[.slice a n cap] w fun e w' => e = .returned (.int .u64 (nuN L n : Nat)) ∧ w' = w := by
  have hB := hp.byte
  go_enter Tryd.func47, Tryd.ntmps47
  go_wp2
  go_loop [3, 8] (fun x i => ∃ k : Nat, k ≤ n ∧ i = .int .i64 k ∧ x = .int .u64 (nuN L k : Nat)) (fun _ i => n - (intOf i).toNat)
  case atStart => exact ⟨0, by omega, rfl, rfl⟩
  case round =>
    obtain ⟨k, hk, rfl, rfl⟩ := hrel
    by_cases hlt : k < n
    · obtain ⟨b, off, rfl, hbw, hcc⟩ := hp.at' (by omega)
      have hck := hcc k hlt
      have hb := hB.nth k
      have hv : nuN L k < 72057594037927936 := Nat.lt_of_lt_of_le (nuN_lt hB k) (pow_seven k (by omega))
      have hf := or_byte (nuN L k) (nth L k) hv hb
      have HN : Hid (nuN L (k + 1) = nuN L k * 256 + nth L k) := rfl
      have hki : (k : Int) < (n : Int) := by omega
      clear hcc
      generalize nuN L k = v at *
      generalize nth L k = b at *
      go_wp2
      go_round
      case rel => exact ⟨k + 1, by omega, by go_num, by rw [HN.out]; exact congrArg _ (by omega)⟩
      case measure => simp [intOf]; omega
    · obtain rfl : k = n := by omega
      go_wp2
      go_ret
      exact ⟨rfl, rfl⟩
theorem cell_one (w : World) (v : Value) (j : Nat) (u : Value) (h : [v][j]? = some u) : (w.alloc (.cells #[v] 5)).cell? ((⟨w.heap.size, 0, none⟩ : Addr).add j) = some u := by
  rw [addr_add, cell_of_row _ _ _ _ _ _ (heap_alloc_new w _)]
  simpa using h
/-- 'append(v, x...)' of bytes, x not empty, seen from a world w0 ahead -/
theorem wpList_joinB (w0 w : World) (lo : Nat) {ops : Array Oper} {rest : List Oper} {o : Oper} {a : Act} {Q : Exit → Act → World → Prop} (hg : o.guard = none) (s x : Operand)
    (hop : o.op = Op.call { callee := .builtin .append, args := #[s, x], argTypes := #[24, 24] }) (ao : Option Addr) (m co : Nat) (D : List Nat) (hs : a.eval s = .slice ao m co)
    (hA : Ans w lo ao m co D) (hlo : w0.heap.size ≤ lo) (hlw : lo ≤ w.heap.size) (hG : w0.grownBy w none) (ad : Addr) (k cx : Nat) (X : List Nat) (hx : a.eval x = .slice (some ad) k cx) (hX : X.length = k) (hXB : IsB X)
    (hc : ∀ j u, (bys X)[j]? = some u → w.cell? (ad.add j) = some u) (hk : 0 < k) (hb : m + k ≤ 140737488355000)
    (hK : ∀ gx cx w', Ans w' lo (some ⟨gx, 0, none⟩) (m + k) cx (D ++ X) → w0.grownBy w' none → ((Value.slice ao m co).ownBlock = some gx ∨ w.heap.size ≤ gx) → w.grownBy w' (Value.slice ao m co).ownBlock → wpList Tryd.prog ops Q rest (a.put o.dst (.slice (some ⟨gx, 0, none⟩) (m + k) cx)) w') :
    wpList Tryd.prog ops Q (o :: rest) a w := by
  refine wpList_apB w hg s x hop (.slice ao m co) m (bys D) hs hA.own ad k cx (bys X) hx (by rw [bys_length, hX]) hc (bys_one X) hk (by omega) ?_
  intro gx cx' w2 hgx hgr2 hown2
  have e : bys D ++ bys X = bys (D ++ X) := by simp [bys]
  rw [e] at hown2
  refine hK gx cx' w2 ⟨hown2, isB_append hA.byte hXB, fun g h => ?_⟩ (grown_far hG hgr2 (fun g h => Nat.le_trans hlo (hA.new g h))) hgx hgr2
  have e : gx = g := Option.some.inj h
  subst e
  rcases hgx with h | h
  · exact hA.new gx h
  · exact Nat.le_trans hlw h
/-- bytes of a number, the highest first -/
def beB (s x i : Nat) : Nat := x / 2 ^ ((s - 1 - i) * 8) % 256
def beT (s x k : Nat) : List Nat := (List.range k).map (beB s x)
theorem beT_len (s x k : Nat) : (beT s x k).length = k := by simp [beT]
theorem beT_isB (s x k : Nat) : IsB (beT s x k) := by
  intro y hy
  obtain ⟨i, _, rfl⟩ := List.mem_map.1 hy
  exact Nat.mod_lt _ (by decide)
theorem beT_succ (s x k : Nat) : beT s x (k + 1) = beT s x k ++ [beB s x k] := by unfold beT; rw [List.range_succ]; simp
set_option maxHeartbeats 2000000 in
theorem put_any (w0 : World) (lo : Nat) (ao : Option Addr) (m co x s : Nat) (D : List Nat) (w : World) (hA : Ans w lo ao m co D) (hlo : w0.heap.size ≤ lo) (hlw : lo ≤ w.heap.size) (hG : w0.grownBy w none) (hx : x < 18446744073709551616) (hs : s ≤ 8) (hm : m ≤ 1000000000) :
    Calls Tryd.prog 41 #[.slice ao m co, .int .u64 x, .int .i64 s] w fun e w' => ∃ a' c', e = .returned (.slice a' (m + s) c') ∧ Ans w' lo a' (m + s) c' (D ++ beT s x s) ∧ w0.grownBy w' none := by
  go_enter Tryd.func41, Tryd.ntmps41
  go_wp2
  go_loopw [0, 9] (fun l i wr => ∃ (k : Nat) (a1 : Option Addr) (c1 : Nat), k ≤ s ∧ i = .int .i64 k ∧ l = .slice a1 (m + k) c1 ∧ Ans wr lo a1 (m + k) c1 (D ++ beT s x k) ∧ w0.grownBy wr none ∧ lo ≤ wr.heap.size) (fun _ i _ => s - (intOf i).toNat)
  case atStart => exact ⟨0, ao, co, by omega, rfl, rfl, by simpa [beT] using hA, hG, hlw⟩
  case round =>
    obtain ⟨k, a1, c1, hk, rfl, rfl, hA1, hG1, hl1⟩ := hrel
    by_cases hlt : k < s
    · obtain ⟨j, hj⟩ : ∃ j, j = s - 1 - k := ⟨_, rfl⟩
      have e1 : ((s : Int) - 1 - (k : Int)) * 8 = ((j * 8 : Nat) : Int) := by omega
      have hj8 : j * 8 < 64 := by omega
      obtain ⟨y, hy⟩ : ∃ y, y = x / 2 ^ (j * 8) % 256 := ⟨_, rfl⟩
      have e2 : (x : Int) / 2 ^ (j * 8) % 256 = (y : Int) := by rw [hy, Int.natCast_emod, Int.natCast_ediv, Int.natCast_pow]; rfl
      have hyl : y < 256 := by rw [hy]; exact Nat.mod_lt _ (by decide)
      have HY : Hid (D ++ beT s x (k + 1) = D ++ beT s x k ++ [y]) := by
        show _ = _
        rw [beT_succ, List.append_assoc]
        unfold beB
        rw [← hj, ← hy]
      have hki : (k : Int) < (s : Int) := by omega
      have hjd : (s : Int) - 1 - (k : Int) = (j : Int) := by omega
      clear hy hj
      have hA1' := hA1.keep (World.grownBy_alloc wr (.cells #[.int .u8 (y : Nat)] 5) none)
      have hG1' := grown_trans hG1 (World.grownBy_alloc wr (.cells #[.int .u8 (y : Nat)] 5) none)
      have hl1' : lo ≤ (wr.alloc (.cells #[.int .u8 (y : Nat)] 5)).heap.size := by simp; omega
      have hyB : IsB [y] := fun z hz => by simp at hz; subst hz; exact hyl
      go_wp2_with (at_builtin; refine wpList_joinB w0 _ lo rfl _ _ rfl a1 (m + k) c1 _ rfl hA1' hlo hl1' hG1' ⟨wr.heap.size, 0, none⟩ 1 1 [y] rfl rfl hyB (cell_one wr (.int .u8 (y : Nat))) (by decide) (by omega) ?_; intro gx cx w2 hA2 hG2 hgx hgr2)
      rw [← HY.out] at hA2
      go_roundw
      case rel => exact ⟨k + 1, some ⟨gx, 0, none⟩, cx, by omega, by go_num, rfl, hA2, hG2, Nat.le_trans hl1' hgr2.size⟩
      case measure => simp [intOf]; omega
    · obtain rfl : k = s := by omega
      go_wp2
      go_ret
      exact ⟨a1, c1, rfl, hA1, hG1⟩
end Go.Proofs.YtlaiocefbhoccaaDoor
