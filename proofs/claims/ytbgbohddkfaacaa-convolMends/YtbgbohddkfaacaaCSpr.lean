import Derived.Test.YtbgbohddkfaacaaCCnt
namespace Go.Proofs.Ytbgbohddkfaacaa
open Go.RowKit
set_option maxRecDepth 100000
set_option linter.unusedVariables false
set_option linter.unusedSimpArgs false

theorem cell_one (w : World) (v : Value) (j : Nat) (u : Value) (h : [v][j]? = some u) : (w.alloc (.cells #[v] 5)).cell? ((⟨w.heap.size, 0, none⟩ : Addr).add j) = some u := by
  rw [addr_add, cell_of_row _ _ _ _ _ _ (heap_alloc_new w _)]
  simpa using h
theorem bys_add (A : List Nat) (v : Nat) : bys A ++ [Value.int .u8 (v : Int)] = bys (A ++ [v]) := by simp [bys]
/-- the state ahead of step k; the register of step k; the symbols of k steps -/
def stN (B : List Nat) : Nat → Nat
  | 0 => 0
  | k + 1 => (2 * stN B k + nth B k) % 64
def rgN (B : List Nat) (k : Nat) : Nat := 2 * stN B k + nth B k
def one? (b : Bool) (x : Nat) : List Nat := if b then [x] else []
def outN (r : Nat) (B : List Nat) : Nat → List Nat
  | 0 => []
  | k + 1 => outN r B k ++ one? (kb (pF r) k) (sy1 (rgN B k)) ++ one? (kb (pS r) k) (sy2 (rgN B k))
/-- bits -/
def IsBit (B : List Nat) : Prop := ∀ i, nth B i < 2
theorem stN_lt (B : List Nat) (k : Nat) : stN B k < 64 := by
  cases k with
  | zero => exact (by decide : 0 < 64)
  | succ k => exact Nat.mod_lt _ (by decide)
theorem rgN_lt (B : List Nat) (hB : IsBit B) (k : Nat) : rgN B k < 128 := by
  have := stN_lt B k; have := hB k; unfold rgN; omega
theorem stN_succ (B : List Nat) (k : Nat) : stN B (k + 1) = rgN B k % 64 := rfl
theorem one?_len (b : Bool) (x : Nat) : (one? b x).length = kn b := by cases b <;> rfl
theorem outN_len (r : Nat) (B : List Nat) (k : Nat) : (outN r B k).length = cntN r k := by
  induction k with
  | zero => rfl
  | succ k ih => unfold outN cntN; rw [List.length_append, List.length_append, ih, one?_len, one?_len]
theorem isB_one? (b : Bool) (x : Nat) (h : x < 256) : IsB (one? b x) := by
  cases b
  · intro y hy; cases hy
  · intro y hy; cases hy with
    | head => exact h
    | tail _ h2 => cases h2
theorem isB_outN (r : Nat) (B : List Nat) (k : Nat) : IsB (outN r B k) := by
  induction k with
  | zero => intro x hx; cases hx
  | succ k ih =>
    refine isB_append (isB_append ih (isB_one? _ _ ?_)) (isB_one? _ _ ?_)
    · have := sy1_lt (rgN B k); omega
    · have := sy2_lt (rgN B k); omega
theorem symbols_int (z : Int) (r : Nat) (hz : z = (r : Int)) (hr : r < 128) (w : World) : Calls Try.prog 51 #[.int .i64 z] w fun e w' => e = .returned (.tuple #[.int .u8 (sy1 r : Nat), .int .u8 (sy2 r : Nat)]) ∧ w' = w := by
  subst hz; exact symbols_any r hr w
theorem or_reg (s : Nat) (hs : s < 64) (b : Nat) (hb : b < 2) : bits .or .i64 ((s : Int) * 2) (b : Int) = ((2 * s + b : Nat) : Int) := by
  revert hb; revert b; revert hs; revert s; decide +kernel
theorem nth_tail (B : List Nat) (k n : Nat) (h : B.length = n) (hk : n ≤ k) : nth B k = 0 := nth_out B k (by omega)
theorem own_nil (w : World) (lo g c : Nat) (h : w.ownsRow lo 5 1 (.slice (some ⟨g, 0, none⟩) 0 c) 0 []) (hg : lo ≤ g) : Ans w lo (some ⟨g, 0, none⟩) 0 c [] :=
  ⟨own_base h, (fun x hx => by cases hx), fun g' h' => by simp [Value.ownBlock] at h'; omega⟩
/-- 'out = append(out, v)' -/
theorem wpList_push (w0 w : World) {ops : Array Oper} {rest : List Oper} {o : Oper} {a : Act} {Q : Exit → Act → World → Prop} (hg : o.guard = none) (s x : Operand)
    (hop : o.op = Op.call { callee := .builtin .append, args := #[s, x], argTypes := #[22, 22] }) (ao : Option Addr) (m co v : Nat) (D : List Nat) (hs : a.eval s = .slice ao m co)
    (hA : Ans w w0.heap.size ao m co D) (hG : w0.grownBy w none) (hv : v < 256) (hx : a.eval x = .slice (some ⟨w.heap.size, 0, none⟩) 1 1) (hb : m + 1 ≤ 140737488355328)
    (hK : ∀ gx cx w', Ans w' w0.heap.size (some ⟨gx, 0, none⟩) (m + 1) cx (D ++ [v]) → w0.grownBy w' none → wpList Try.prog ops Q rest (a.put o.dst (.slice (some ⟨gx, 0, none⟩) (m + 1) cx)) w') :
    wpList Try.prog ops Q (o :: rest) a (w.alloc (.cells #[.int .u8 (v : Int)] 5)) := by
  refine wpList_apB _ hg s x hop (.slice ao m co) m (bys D) hs (hA.own.alloc _) ⟨w.heap.size, 0, none⟩ 1 1 [.int .u8 (v : Int)] hx rfl (cell_one w _) (by simp [Value.oneCell']) (by decide) hb ?_
  intro gx cx w2 hgx hgr2 hown2
  rw [bys_add] at hown2
  have gA := grown_trans hG (World.grownBy_alloc w (.cells #[.int .u8 (v : Int)] 5) none)
  have hG2 := grown_far gA hgr2 (hA.far _ (Nat.le_refl _))
  refine hK gx cx w2 ⟨hown2, ?_, fun g h => ?_⟩ hG2
  · exact isB_append hA.byte (fun y hy => by cases hy with | head => exact hv | tail _ h2 => cases h2)
  · have e : gx = g := Option.some.inj h
    subst e
    rcases hgx with h | h
    · exact hA.new gx h
    · exact Nat.le_trans gA.size h
set_option maxHeartbeats 4000000 in
theorem spread_any (a : Option Addr) (n cap r : Nat) (B : List Nat) (w : World) (hp : Rd w a n cap B) (hn : n ≤ 16384) (hbit : IsBit B) (h1 : 1 ≤ r) (h2 : r ≤ 5) :
    Calls Try.prog 39 #[.slice a n cap, patV r] w fun e w' => ∃ a' c', e = .returned (.slice a' (cntN r (n + 6) : Nat) c') ∧ Ans w' w.heap.size a' (cntN r (n + 6)) c' (outN r B (n + 6)) ∧ w.grownBy w' none := by
  unfold patV
  have hcl := cntN_le r (n + 6)
  have hb0 := box_new w r
  have hg0 := World.grownBy_alloc w (.cells #[.string (pF r), .string (pS r)] 60) none
  have c0 := hb0.c0
  have c1 := hb0.c1
  have HC := fun w' => count_any r (n + 6) (by omega) h1 h2 w'
  unfold patV at HC
  obtain ⟨i0, hi, hz0, hz1, hz2⟩ := info_parts Try.info_u8
  go_enter Try.func39, Try.ntmps39
  go_wp2_with (first
    | (go_at_call 42; refine (HC _).mono ?_; rintro e w1 ⟨rfl, g1⟩)
    | (at_make; refine wpList_make_own _ rfl _ _ 22 rfl w1.heap.size 5 i0 (.int .u8 0) 1 Try.underlying22 hi hz0 hz1 .i64 .i64 (cntN r (n + 6) : Nat) (cntN r (n + 6)) rfl rfl rfl (by rw [hz2]; omega) (by unfold maxLen; omega) (Nat.le_refl _) ?_; intro w2 hown2 g2))
  have hG2 := grown_trans g1 g2
  have hA2 := (own_nil w2 w1.heap.size _ _ hown2 (Nat.le_refl _)).wide g1.size
  generalize hwb : w.alloc (.cells #[.string (pF r), .string (pS r)] 60) = wb at *
  clear hown2 g1 g2 c0 c1 HC hwb
  go_loopw [6, 7, 22] (fun o s i wr => ∃ (k co : Nat) (ao : Option Addr), k ≤ n + 6 ∧ i = .int .i64 k ∧ s = .int .i64 (stN B k : Nat) ∧ o = .slice ao (cntN r k : Nat) co ∧ wb.grownBy wr none ∧ Ans wr wb.heap.size ao (cntN r k) co (outN r B k)) (fun _ _ i _ => n + 6 - (intOf i).toNat)
  case atStart => exact ⟨0, _, _, by omega, rfl, rfl, rfl, hG2, hA2⟩
  case round =>
    obtain ⟨k, co, ao, hk, rfl, rfl, rfl, hgr, hA⟩ := hrel
    by_cases hlt : k < n + 6
    · have hBx := hb0.keep hgr
      have c0 := hBx.c0
      have c1 := hBx.c1
      have hl := cntN_le r k
      have hp' := hp.keep (grown_trans hg0 hgr)
      have H := fun w' => keep_any r k (by omega) h1 h2 w'
      unfold patV at H
      obtain ⟨b1, e1⟩ : ∃ b, kb (pF r) k = b := ⟨_, rfl⟩
      obtain ⟨b2, e2⟩ : ∃ b, kb (pS r) k = b := ⟨_, rfl⟩
      rw [e1, e2] at H
      have HC : Hid (cntN r (k + 1) = cntN r k + kn b1 + kn b2) := cnt_step r k b1 b2 e1 e2
      have HO : Hid (outN r B (k + 1) = outN r B k ++ one? b1 (sy1 (rgN B k)) ++ one? b2 (sy2 (rgN B k))) := by rw [← e1, ← e2]; exact rfl
      have HS : Hid (stN B (k + 1) = rgN B k % 64) := rfl
      have HR : Hid (rgN B k = 2 * stN B k + nth B k) := rfl
      have hs := stN_lt B k
      have hb := hbit k
      have hrl := rgN_lt B hbit k
      have l1 := sy1_lt (rgN B k)
      have l2 := sy2_lt (rgN B k)
      have HY := fun z hz w' => symbols_int z (rgN B k) hz hrl w'
      clear e1 e2
      generalize rgN B k = rg at *
      generalize stN B k = s at *
      generalize outN r B k = D at *
      generalize cntN r k = c at *
      generalize sy1 rg = s1 at *
      generalize sy2 rg = s2 at *
      by_cases hkn : k < n
      · obtain ⟨bb, off, rfl, hbw, hcc⟩ := hp'.at' (by omega)
        have hck := hcc k hkn
        have hor : bits .or .i64 ((s : Int) * 2) (nth B k : Nat) = (rg : Int) := by rw [HR.out]; exact or_reg s hs (nth B k) hb
        clear hcc hA2 hG2 hp hp' hBx
        cases b1 <;> cases b2
        all_goals
          have t1 : True := trivial
          go_wp2_with (first
            | (go_at_call 51; refine (HY _ rfl _).mono ?_; rintro e w3 ⟨rfl, hw⟩; have hw := hw.symm; subst hw)
            | (go_at_call 52; refine (H _).mono ?_; rintro e w3 ⟨rfl, g3⟩; have hG3 := grown_trans hgr g3; have hA3 := hA.keep g3)
            | (at_builtin; have _t := t1; clear t1; refine wpList_push wb w3 rfl (.tmp 50) (.tmp 52) rfl ao c co s1 D rfl hA3 hG3 (by omega) rfl (by omega) ?_; intro gx cx w4 hA4 hG4)
            | (at_builtin; refine wpList_push wb w3 rfl (.tmp 55) (.tmp 57) rfl ao c co s2 D rfl hA3 hG3 (by omega) rfl (by omega) ?_; intro gx cx w4 hA4 hG4)
            | (at_builtin; refine wpList_push wb w4 rfl (.tmp 55) (.tmp 57) rfl (some ⟨gx, 0, none⟩) (c + 1) cx s2 (D ++ [s1]) rfl hA4 hG4 (by omega) rfl (by omega) ?_; intro gy cy w5 hA5 hG5))
          go_roundw
          case rel =>
            have e1 := HC.out
            have e2 := HO.out
            have e3 := HS.out
            have e4 := HR.out
            simp only [kn, one?, if_true, Bool.false_eq_true, if_false, List.append_nil, Nat.add_zero] at e1 e2
            first
              | exact ⟨k + 1, cy, some ⟨gy, 0, none⟩, by omega, by go_num, congrArg _ (by rw [e3]; omega), by rw [e1], hG5, by rw [e1, e2]; exact hA5⟩
              | exact ⟨k + 1, cx, some ⟨gx, 0, none⟩, by omega, by go_num, congrArg _ (by rw [e3]; omega), by rw [e1], hG4, by rw [e1, e2]; exact hA4⟩
              | exact ⟨k + 1, co, ao, by omega, by go_num, congrArg _ (by rw [e3]; omega), by rw [e1], hG3, by rw [e1, e2]; exact hA3⟩
          case measure => simp [intOf]; omega
      · have hb0' : nth B k = 0 := nth_tail B k n hp.len (by omega)
        have HR2 : (s : Int) * 2 = (rg : Int) := by have := HR.out; rw [hb0'] at this; omega
        clear hA2 hG2 hp hp' hBx
        cases b1 <;> cases b2
        all_goals
          have t1 : True := trivial
          go_wp2_with (first
            | (go_at_call 51; refine (HY _ (by omega) _).mono ?_; rintro e w3 ⟨rfl, hw⟩; have hw := hw.symm; subst hw)
            | (go_at_call 52; refine (H _).mono ?_; rintro e w3 ⟨rfl, g3⟩; have hG3 := grown_trans hgr g3; have hA3 := hA.keep g3)
            | (at_builtin; have _t := t1; clear t1; refine wpList_push wb w3 rfl (.tmp 50) (.tmp 52) rfl ao c co s1 D rfl hA3 hG3 (by omega) rfl (by omega) ?_; intro gx cx w4 hA4 hG4)
            | (at_builtin; refine wpList_push wb w3 rfl (.tmp 55) (.tmp 57) rfl ao c co s2 D rfl hA3 hG3 (by omega) rfl (by omega) ?_; intro gx cx w4 hA4 hG4)
            | (at_builtin; refine wpList_push wb w4 rfl (.tmp 55) (.tmp 57) rfl (some ⟨gx, 0, none⟩) (c + 1) cx s2 (D ++ [s1]) rfl hA4 hG4 (by omega) rfl (by omega) ?_; intro gy cy w5 hA5 hG5))
          go_roundw
          case rel =>
            have e1 := HC.out
            have e2 := HO.out
            have e3 := HS.out
            have e4 := HR.out
            simp only [kn, one?, if_true, Bool.false_eq_true, if_false, List.append_nil, Nat.add_zero] at e1 e2
            first
              | exact ⟨k + 1, cy, some ⟨gy, 0, none⟩, by omega, by go_num, congrArg _ (by rw [e3]; omega), by rw [e1], hG5, by rw [e1, e2]; exact hA5⟩
              | exact ⟨k + 1, cx, some ⟨gx, 0, none⟩, by omega, by go_num, congrArg _ (by rw [e3]; omega), by rw [e1], hG4, by rw [e1, e2]; exact hA4⟩
              | exact ⟨k + 1, co, ao, by omega, by go_num, congrArg _ (by rw [e3]; omega), by rw [e1], hG3, by rw [e1, e2]; exact hA3⟩
          case measure => simp [intOf]; omega
    · obtain rfl : k = n + 6 := by omega
      go_wp2
      go_ret
      exact ⟨_, _, rfl, hA.wide hg0.size, grown_trans hg0 hgr⟩
end Go.Proofs.Ytbgbohddkfaacaa
