import Derived.LaidEql
import Derived.Stop.Asserts
import Derived.RowKitTokens
import Derived.Lib.IfaceEq
import Derived.Test.YthdjpbfknbafgaaLi0
import Derived.Test.YthdjpbfknbafgaaLi8
import Derived.Test.YthdjpbfknbafgaaLi10
import Derived.Test.YthdjpbfknbafgaaLi7
import Derived.Test.YthdjpbfknbafgaaLi1
import Derived.Test.YthdjpbfknbafgaaLi2
import Derived.Test.YthdjpbfknbafgaaLi5
namespace Go.Proofs.Ythdjpbfknbafgaa
open Go.RowKit
set_option maxRecDepth 100000
set_option linter.unusedVariables false
set_option linter.unusedSimpArgs false

section
open Go.RowKit Go.Extern.Stop Go.Stop Go.Extern

theorem Try.isTypeOf (v : Value) (w : World) : (Extern.ReflectliteType.typeOf #[.iface 29 v]).run Try.prog w = .ok (.iface 81 (.agg #[.pointer (some ⟨0, 29, none⟩)])) w := by kernel_rfl
theorem Try.cmpEx : ∃ f : Array Value → Sem Value, find Try.f64 = some f ∧ ∀ w, (f #[.agg #[.pointer (some ⟨0, 29, none⟩)]]).run Try.prog w = .ok (.bool true) w := by
  have hs : (find Try.f64).isSome = true := by kernel_rfl
  have hr : ∀ w, (((find Try.f64).getD (fun _ => pure undef)) #[.agg #[.pointer (some ⟨0, 29, none⟩)]]).run Try.prog w = .ok (.bool true) w := fun w => by kernel_rfl
  cases h : find Try.f64 with
  | none => rw [h] at hs; cases hs
  | some f => exact ⟨f, rfl, fun w => by have := hr w; rw [h] at this; exact this⟩
theorem Try.isMethod (v : Value) (w : World) : (Go.method 228 81 v "Comparable").run Try.prog w = .ok (64, v) w := by kernel_rfl
theorem Try.noIs (v : Value) (xT : TypeId) (w : World) : (Instr.typeAssert (.iface 29 v) xT 83 true).run Try.prog w = .ok (.tuple #[.nilIface, .bool false]) w := run_typeAssert_lacksB Try.underlying83 (by kernel_rfl) (by kernel_rfl) v xT w
theorem Try.noUnwrap (v : Value) (xT : TypeId) (w : World) : (Instr.typeAssert (.iface 29 v) xT 86 true).run Try.prog w = .ok (.tuple #[.nilIface, .bool false]) w := run_typeAssert_lacksB Try.underlying86 (by kernel_rfl) (by kernel_rfl) v xT w
theorem Try.noUnwraps (v : Value) (xT : TypeId) (w : World) : (Instr.typeAssert (.iface 29 v) xT 88 true).run Try.prog w = .ok (.tuple #[.nilIface, .bool false]) w := run_typeAssert_lacksB Try.underlying88 (by kernel_rfl) (by kernel_rfl) v xT w
theorem Try.errComp : (Try.prog.info? 29).map (·.comparable) = some true := by kernel_rfl
theorem is_errno (x y : Int) (w : World) : Calls Try.prog 26 #[.iface 29 (.int .i64 x), .iface 29 (.int .i64 y)] w fun e w' => e = .returned (.bool (decide (x = y))) ∧ w' = w := by
  have h8 := @run_callFunc_extern Try.prog 33 _ Extern.ReflectliteType.typeOf Try.func33 (by kernel_rfl) (by kernel_rfl) (by kernel_rfl) (by kernel_rfl)
  obtain ⟨cmpX, hcf, cT⟩ := Try.cmpEx
  have h32 := @run_callFunc_extern Try.prog 64 _ cmpX Try.func64 (by kernel_rfl) (by kernel_rfl) (by kernel_rfl) hcf
  have tT := Try.isTypeOf
  have mR := Try.isMethod
  have nE := Try.noIs
  have uE := Try.noUnwrap
  have vE := Try.noUnwraps
  have heq := fun w => Lib.run_eql_iface_int (P := Try.prog) w (t := 50) (tx := 29) (k := .i64) (q := .i64) x y Try.underlying50 Try.errComp Try.underlying29
  go_enter Try.func26, Try.ntmps26
  go_wp2
  refine wp_loop_rounds 1 ?_
  rw [rounds_succ]
  by_cases hxy : x = y
  · subst hxy
    go_wp2
    go_ret
    exact ⟨by simp, rfl⟩
  · have hne : (x == y) = false := by simp [hxy]
    go_wp2
    go_ret
    exact ⟨by simp [hxy], rfl⟩
end

section
open Go.RowKit Go.Shelf

/-- Tell of a number -/
theorem tellE_any (x : Nat) (h1 : 1 ≤ x) (h2 : x ≤ 20) (w : World) : Calls Try.prog 16 #[.iface 29 (.int .i64 x)] w fun e w' => e = .returned (.int .i64 x) ∧ w' = w := by
  go_enter Try.func16, Try.ntmps16
  go_wp2
  go_loop [3] (fun u => ∃ k : Nat, 1 ≤ k ∧ k ≤ x ∧ u = .int .i64 k) (fun u => x + 1 - (intOf u).toNat)
  case atStart => exact ⟨1, by omega, by omega, rfl⟩
  case round =>
    obtain ⟨k, hk1, hk2, rfl⟩ := hrel
    have H := fun w' => is_errno (x : Int) (k : Int) w'
    have hk20 : (k : Int) ≤ 20 := by omega
    by_cases hx : k = x
    · subst hx
      have hd : decide ((k : Int) = (k : Int)) = true := by simp
      rw [hd] at H
      go_wp2_with (go_at_call 26; refine (H _).mono ?_; rintro e w1 ⟨rfl, hw⟩; have hw := hw.symm; subst hw)
      go_ret
      exact ⟨rfl, rfl⟩
    · have hd : decide ((x : Int) = (k : Int)) = false := by simp; omega
      rw [hd] at H
      go_wp2_with (go_at_call 26; refine (H _).mono ?_; rintro e w1 ⟨rfl, hw⟩; have hw := hw.symm; subst hw)
      go_round
      case rel => exact ⟨k + 1, by omega, by omega, by go_num⟩
      case measure => simp [intOf]; omega
/-- what a rule is refused with (0: it may be) -/
def ruE (L F H M : Int) : Nat := if L < 1 ∨ 2048 < L then 1 else if (0 ≤ F ∧ F ≤ 8) ∧ (0 ≤ H ∧ H ≤ 12) ∧ (0 ≤ M ∧ M ≤ 8) then 0 else 2
def ruZ (L F H M : Int) : Value := .agg #[.int .i64 L, .int .i64 F, .int .i64 H, .int .i64 M]
set_option maxHeartbeats 2000000 in
theorem new_bad (L F H M : Int) (w : World) (hb : ruE L F H M ≠ 0) :
    Calls Try.prog 15 #[ruZ L F H M] w fun e w' => e = .returned (.tuple #[.pointer none, .iface 29 (.int .i64 (ruE L F H M : Nat))]) ∧ w.grownBy w' none := by
  unfold ruZ
  have gA := World.grownBy_alloc w (.cells #[.int .i64 L, .int .i64 F, .int .i64 H, .int .i64 M] 23) none
  by_cases h1 : L < 1
  · have e : ruE L F H M = 1 := by unfold ruE; rw [if_pos (.inl h1)]
    rw [e]
    have h1' : decide (L < 1) = true := decide_eq_true h1
    clear hb e
    go_enter Try.func15, Try.ntmps15
    go_wp2
    go_ret2
    exact ⟨rfl, gA⟩
  · by_cases h2 : 2048 < L
    · have e : ruE L F H M = 1 := by unfold ruE; rw [if_pos (.inr h2)]
      rw [e]
      have h1' : decide (L < 1) = false := decide_eq_false h1
      have h2' : decide (2048 < L) = true := decide_eq_true h2
      clear hb e
      go_enter Try.func15, Try.ntmps15
      go_wp2
      go_ret2
      exact ⟨rfl, gA⟩
    · have hL : ¬ (L < 1 ∨ 2048 < L) := by omega
      have e : ruE L F H M = 2 := by
        unfold ruE at hb ⊢
        rw [if_neg hL] at hb ⊢
        split
        · rename_i hg; rw [if_pos hg] at hb; exact absurd rfl hb
        · rfl
      have hbad : ¬ ((0 ≤ F ∧ F ≤ 8) ∧ (0 ≤ H ∧ H ≤ 12) ∧ (0 ≤ M ∧ M ≤ 8)) := fun hg => by
        unfold ruE at e
        rw [if_neg hL, if_pos hg] at e
        cases e
      rw [e]
      have h1' : decide (L < 1) = false := decide_eq_false h1
      have h2' : decide (2048 < L) = false := decide_eq_false h2
      have WF := fun w => within_any F 8 w
      have WH := fun w => within_any H 12 w
      have WM := fun w => within_any M 8 w
      obtain ⟨bF, hF⟩ : ∃ b, b = (decide (0 ≤ F) && decide (F ≤ 8)) := ⟨_, rfl⟩
      obtain ⟨bH, hH⟩ : ∃ b, b = (decide (0 ≤ H) && decide (H ≤ 12)) := ⟨_, rfl⟩
      obtain ⟨bM, hM⟩ : ∃ b, b = (decide (0 ≤ M) && decide (M ≤ 8)) := ⟨_, rfl⟩
      rw [← hF] at WF
      rw [← hH] at WH
      rw [← hM] at WM
      have hall : (bF && bH && bM) = false := by
        rw [hF, hH, hM]
        simp only [Bool.and_eq_false_iff, decide_eq_false_iff_not]
        omega
      clear hF hH hM hbad hb e hL h1 h2
      have t1 : True := trivial
      cases bF
      · go_enter Try.func15, Try.ntmps15
        go_wp2_with (first
          | (go_at_call 24; have _t := t1; clear t1; refine (WF _).mono ?_; rintro e w1 ⟨rfl, hw⟩; have hw := hw.symm; subst hw; have t2 : True := trivial))
        go_ret2
        exact ⟨rfl, gA⟩
      · cases bH
        · go_enter Try.func15, Try.ntmps15
          go_wp2_with (first
            | (go_at_call 24; have _t := t1; clear t1; refine (WF _).mono ?_; rintro e w1 ⟨rfl, hw⟩; have hw := hw.symm; subst hw; have t2 : True := trivial)
            | (go_at_call 24; have _t := t2; clear t2; refine (WH _).mono ?_; rintro e w1 ⟨rfl, hw⟩; have hw := hw.symm; subst hw; have t3 : True := trivial))
          go_ret2
          exact ⟨rfl, gA⟩
        · cases bM
          · go_enter Try.func15, Try.ntmps15
            go_wp2_with (first
              | (go_at_call 24; have _t := t1; clear t1; refine (WF _).mono ?_; rintro e w1 ⟨rfl, hw⟩; have hw := hw.symm; subst hw; have t2 : True := trivial)
              | (go_at_call 24; have _t := t2; clear t2; refine (WH _).mono ?_; rintro e w1 ⟨rfl, hw⟩; have hw := hw.symm; subst hw; have t3 : True := trivial)
              | (go_at_call 24; have _t := t3; clear t3; refine (WM _).mono ?_; rintro e w1 ⟨rfl, hw⟩; have hw := hw.symm; subst hw; have t4 : True := trivial))
            go_ret2
            exact ⟨rfl, gA⟩
          · cases hall
end

section
open Go.RowKit Go.Shelf

theorem ruE_le (L F H M : Int) : ruE L F H M ≤ 2 := by
  unfold ruE
  split
  · decide
  · split <;> decide
theorem results_tmp4 {fn : Func} {p q r s : Tmp} (h : fn.results = #[.tmp p, .tmp q, .tmp r, .tmp s]) (tmps : Array Value) (P : Program) (w : World) :
    (results fn tmps).run P w = .ok (.tuple #[tmps.getD p undef, tmps.getD q undef, tmps.getD r undef, tmps.getD s undef]) w := by
  simp only [results, h]
  simp [Sem.run_bind, Result.andThen]
set_option maxHeartbeats 2000000 in
/-- a rule that may not be: its number, and nothing -/
theorem listen_bad (L F H M : Int) (ap : Option Addr) (np cp : Nat) (w : World) (hb : ruE L F H M ≠ 0) :
    Calls Try.prog 8 #[ruZ L F H M, .slice ap np cp] w fun e w' => e = .returned (.tuple #[.slice none 0 0, .slice none 0 0, .slice none 0 0, .int .i64 (ruE L F H M : Nat)]) ∧ w.grownBy w' none := by
  have hN := fun w1 => new_bad L F H M w1 hb
  have hle := ruE_le L F H M
  have hT := fun w1 => tellE_any (ruE L F H M) (by omega) (by omega) w1
  have gA := World.grownBy_alloc w (.cells #[.int .i64 L, .int .i64 F, .int .i64 H, .int .i64 M] 23) none
  generalize ruE L F H M = x at *
  unfold ruZ at hN ⊢
  go_enter Try.func8, Try.ntmps8
  go_wp2_with (first
    | (go_at_call 15; refine (hN _).mono ?_; rintro e w1 ⟨rfl, g1⟩)
    | (go_at_call 16; refine (hT _).mono ?_; rintro e w2 ⟨rfl, hw⟩; have hw := hw.symm; subst hw))
  exact bodyPost_ret (results_tmp4 (p := 4) (q := 5) (r := 6) (s := 7) (by kernel_rfl) _ _ _) rfl ⟨rfl, grown_trans gA g1⟩
end

section
open Go.RowKit Go.Shelf
attribute [local go_sem] Oper.semAt_some

theorem Frm.gr {w w' : World} (h : Frm (fun _ => False) w w') : w.grownBy w' none := ⟨h.os, h.tape, h.output, h.size, fun k hk _ => h.block k hk (fun h => h)⟩
theorem Try.inf_sb : (Try.prog.info? 25).map (fun i => (i.zero, i.size, i.bytes)) = some (some (.slice none 0 0), 1, 24) := by kernel_rfl
theorem rd_frm {w w' : World} {p : Nat → Prop} {g off n c : Nat} {L : List Nat} (h : Rd w (some ⟨g, off, none⟩) n c L) (hF : Frm p w w') (hn : ¬ p g) : Rd w' (some ⟨g, off, none⟩) n c L :=
  ⟨h.len, h.le, h.max, h.nil, h.byte, fun h0 => by
    obtain ⟨b, o, e, hb, hc⟩ := h.at' h0
    have e2 : (⟨g, off, none⟩ : Addr) = ⟨b, o, none⟩ := Option.some.inj e
    cases e2
    exact ⟨g, off, rfl, Nat.lt_of_lt_of_le hb hF.size, fun i hi => cell_frm (hc i hi) hF hn⟩⟩
/-- a piece of the row gc -/
structure RdB (w : World) (gc : Nat) (a : Option Addr) (n c : Nat) (L : List Nat) : Prop where
  rd : Rd w a n c L
  blk : ∀ b, a = some b → b.block = gc ∧ b.spot = none
theorem RdB.frm {w w' : World} {p : Nat → Prop} {gc n c : Nat} {a : Option Addr} {L : List Nat} (h : RdB w gc a n c L) (hF : Frm p w w') (hn : ¬ p gc) : RdB w' gc a n c L := by
  refine ⟨?_, h.blk⟩
  cases a with
  | none => exact ⟨h.rd.len, h.rd.le, h.rd.max, h.rd.nil, h.rd.byte, fun h0 => by
      obtain ⟨b, o, e, _⟩ := h.rd.at' h0
      cases e⟩
  | some b =>
    obtain ⟨h1, h2⟩ := h.blk b rfl
    obtain ⟨bb, bo, bs⟩ := b
    dsimp only at h1 h2
    subst h1 h2
    exact rd_frm h.rd hF hn
/-- the pieces so far, their slices in V -/
structure CuP (w : World) (gc : Nat) (V : List Value) (Ps : List (List Nat)) : Prop where
  len : V.length = Ps.length
  at' : ∀ (i : Nat) v B, V[i]? = some v → Ps[i]? = some B → ∃ a m c, v = .slice a m c ∧ RdB w gc a m c B
theorem CuP.frm {w w' : World} {p : Nat → Prop} {gc : Nat} {V : List Value} {Ps : List (List Nat)} (h : CuP w gc V Ps) (hF : Frm p w w') (hn : ¬ p gc) : CuP w' gc V Ps :=
  ⟨h.len, fun i v B h1 h2 => by
    obtain ⟨a, m, c, e, hr⟩ := h.at' i v B h1 h2
    exact ⟨a, m, c, e, hr.frm hF hn⟩⟩
theorem CuP.add {w : World} {gc m c : Nat} {a : Option Addr} {V : List Value} {Ps : List (List Nat)} {B : List Nat} (h : CuP w gc V Ps) (hr : RdB w gc a m c B) : CuP w gc (V ++ [.slice a m c]) (Ps ++ [B]) := by
  refine ⟨by rw [List.length_append, List.length_append, h.len]; rfl, fun i v B' h1 h2 => ?_⟩
  by_cases hi : i < V.length
  · rw [List.getElem?_append_left hi] at h1
    rw [List.getElem?_append_left (by rw [← h.len]; exact hi)] at h2
    exact h.at' i v B' h1 h2
  · rw [List.getElem?_append_right (by omega)] at h1
    rw [List.getElem?_append_right (by rw [← h.len]; omega)] at h2
    have hl : i - V.length < 1 := (List.getElem?_eq_some_iff.1 h1).1
    have e : i - V.length = 0 := by omega
    rw [e] at h1
    rw [← h.len, e] at h2
    cases h1
    cases h2
    exact ⟨a, m, c, rfl, hr⟩
theorem sumX_flat : ∀ Ps : List (List Nat), sumX Ps = Ps.flatten.length
  | [] => rfl
  | A :: Ps => by
    show A.length + sumX Ps = _
    rw [sumX_flat Ps, List.flatten_cons, List.length_append]
end

section
/-- is bit i of a mark at q wrong? how many of the first k are? -/
def badN (B : List Nat) (q : Nat) (t : Bool) (i : Nat) : Nat := if nth B (q + i) % 2 = (if t then 1 - mkN i else mkN i) then 0 else 1
def cntW (B : List Nat) (q : Nat) (t : Bool) : Nat → Nat
  | 0 => 0
  | k + 1 => cntW B q t k + badN B q t k
theorem badN_le (B : List Nat) (q : Nat) (t : Bool) (i : Nat) : badN B q t i ≤ 1 := by
  unfold badN
  by_cases h : nth B (q + i) % 2 = (if t then 1 - mkN i else mkN i)
  · rw [if_pos h]; decide
  · rw [if_neg h]; decide
theorem cntW_le (B : List Nat) (q : Nat) (t : Bool) (k : Nat) : cntW B q t k ≤ k := by
  induction k with
  | zero => exact Nat.le_refl _
  | succ k ih => have := badN_le B q t k; show cntW B q t k + badN B q t k ≤ _; omega
theorem and_one : ∀ b : Nat, b < 256 → bits .and .u8 (b : Int) 1 = ((b % 2 : Nat) : Int) := by decide +kernel
theorem xor_one : ∀ b : Nat, b < 2 → bits .xor .u8 (b : Int) 1 = ((1 - b : Nat) : Int) := by decide +kernel
set_option maxHeartbeats 4000000 in
theorem rwrong_in (a : Option Addr) (n cap q : Nat) (t : Bool) (B : List Nat) (w : World) (hp : Rd w a n cap B) (hn : n ≤ 140737488351232) (hq : q + 32 ≤ n) :
    Calls Try.prog 19 #[.slice a n cap, .int .i64 q, .bool t] w fun e w' => e = .returned (.int .i64 (cntW B q t 32 : Nat)) ∧ w' = w := by
  have hq' : ¬ (n : Int) < (q : Int) + 32 := by omega
  go_enter Try.func19, Try.ntmps19
  go_wp2
  go_loop [7, 8] (fun c i => ∃ k : Nat, k ≤ 32 ∧ i = .int .i64 k ∧ c = .int .i64 (cntW B q t k : Nat)) (fun _ i => 32 - (intOf i).toNat)
  case atStart => exact ⟨0, by omega, rfl, rfl⟩
  case round =>
    obtain ⟨k, hk, rfl, rfl⟩ := hrel
    by_cases hlt : k < 32
    · obtain ⟨b, off, rfl, hbw, hcc⟩ := hp.at' (by omega)
      have hck := hcc (q + k) (by omega)
      have hbl := hp.byte.nth (q + k)
      have hcl := cntW_le B q t k
      obtain ⟨m, hm⟩ : ∃ m, m = mkN k := ⟨_, rfl⟩
      have hml : m < 2 := by rw [hm]; exact mkN_lt k
      obtain ⟨p, hpk⟩ : ∃ p : Nat, p = 31 - k := ⟨_, rfl⟩
      have hs : (31 : Int) - (k : Int) = (p : Int) := by omega
      have hmk := mark_fact p (by omega)
      have HMk : Hid (449838109 / 2 ^ p % 2 = m) := by show _ = _; rw [hm, hpk]; rfl
      rw [HMk.out] at hmk
      have hp32 : p < 32 := by omega
      have ha := and_one (nth B (q + k)) hbl
      have hx := xor_one m hml
      obtain ⟨v, hv⟩ : ∃ v, v = nth B (q + k) % 2 := ⟨_, rfl⟩
      rw [← hv] at ha
      have HC : Hid (cntW B q t (k + 1) = cntW B q t k + if v = (if t then 1 - m else m) then 0 else 1) := by
        show _ = _
        rw [hv, hm]; rfl
      have hqn : q + k < n := by omega
      clear hm hpk hv hcc hp
      cases t
      · by_cases hvm : v = m
        · have hc1 : ((v : Int) == (m : Int)) = true := by simp; omega
          simp only [Bool.false_eq_true, if_false, hvm, if_true, Nat.add_zero] at HC
          subst hvm
          go_wp2
          go_round
          case rel => exact ⟨k + 1, by omega, by go_num, by rw [HC.out]⟩
          case measure => simp [intOf]; omega
        · have hc1 : ((v : Int) == (m : Int)) = false := by simp; omega
          simp only [Bool.false_eq_true, if_false, if_neg hvm] at HC
          go_wp2
          go_round
          case rel => exact ⟨k + 1, by omega, by go_num, by rw [HC.out]; exact congrArg _ (by omega)⟩
          case measure => simp [intOf]; omega
      · by_cases hvm : v = 1 - m
        · have hc1 : ((v : Int) == ((1 - m : Nat) : Int)) = true := by simp; omega
          simp only [if_true, if_pos hvm, Nat.add_zero] at HC
          subst hvm
          go_wp2
          go_round
          case rel => exact ⟨k + 1, by omega, by go_num, by rw [HC.out]⟩
          case measure => simp [intOf]; omega
        · have hc1 : ((v : Int) == ((1 - m : Nat) : Int)) = false := by simp; omega
          simp only [if_true, if_neg hvm] at HC
          go_wp2
          go_round
          case rel => exact ⟨k + 1, by omega, by go_num, by rw [HC.out]; exact congrArg _ (by omega)⟩
          case measure => simp [intOf]; omega
    · obtain rfl : k = 32 := by omega
      go_wp2
      go_ret
      exact ⟨rfl, rfl⟩
/-- 'wrong' of the document, at whatever place -/
def rwV (B : List Nat) (z : Int) (t : Bool) : Nat := if z < 0 ∨ (B.length : Int) < z + 32 then 99 else cntW B z.toNat t 32
theorem rwrong_any (a : Option Addr) (n cap : Nat) (z : Int) (t : Bool) (B : List Nat) (w : World) (hp : Rd w a n cap B) (hn : n ≤ 140737488351232) (hz1 : -1000 ≤ z) (hz2 : z ≤ 1152921504606846976) :
    Calls Try.prog 19 #[.slice a n cap, .int .i64 z, .bool t] w fun e w' => e = .returned (.int .i64 (rwV B z t : Nat)) ∧ w' = w := by
  by_cases h0 : z < 0
  · have e : rwV B z t = 99 := by unfold rwV; rw [if_pos (.inl h0)]
    rw [e]
    have h0' : decide (z < 0) = true := decide_eq_true h0
    go_enter Try.func19, Try.ntmps19
    go_wp2
    go_ret
    exact ⟨rfl, rfl⟩
  · by_cases h1 : (n : Int) < z + 32
    · have e : rwV B z t = 99 := by unfold rwV; rw [hp.len, if_pos (.inr h1)]
      rw [e]
      have h0' : decide (z < 0) = false := decide_eq_false h0
      go_enter Try.func19, Try.ntmps19
      go_wp2
      go_ret
      exact ⟨rfl, rfl⟩
    · obtain ⟨q, rfl⟩ := Int.eq_ofNat_of_zero_le (a := z) (by omega)
      have e : rwV B (q : Int) t = cntW B q t 32 := by unfold rwV; rw [hp.len, if_neg (by omega), Int.toNat_natCast]
      rw [e]
      exact rwrong_in a n cap q t B w hp hn (by omega)
end

section
/-- the newest bits behind n, as one who listens holds them; m bits from q on as a number -/
def laX (B : List Nat) : Nat → Nat
  | 0 => 0
  | n + 1 => (laX B n * 2 + nth B n % 2) % 18446744073709551616
def vB (B : List Nat) (q : Nat) : Nat → Nat
  | 0 => 0
  | m + 1 => 2 * vB B q m + nth B (q + m) % 2
theorem vB_lt (B : List Nat) (q m : Nat) : vB B q m < 2 ^ m := by
  induction m with
  | zero => exact Nat.one_pos
  | succ m ih => show 2 * vB B q m + nth B (q + m) % 2 < 2 ^ (m + 1); rw [Nat.pow_succ]; omega
theorem la_mod (B : List Nat) (q m : Nat) (hm : m ≤ 64) : laX B (q + m) % 2 ^ m = vB B q m := by
  induction m with
  | zero => simp [vB, Nat.mod_one]
  | succ m ih =>
    have h := ih (by omega)
    show (laX B (q + m) * 2 + nth B (q + m) % 2) % 18446744073709551616 % 2 ^ (m + 1) = 2 * vB B q m + nth B (q + m) % 2
    have hd : 2 ^ (m + 1) ∣ 18446744073709551616 := by
      rw [show 18446744073709551616 = 2 ^ 64 from rfl]; exact Nat.pow_dvd_pow 2 hm
    rw [Nat.mod_mod_of_dvd _ hd, Nat.pow_succ, ← h]
    generalize laX B (q + m) = x
    have hp : 0 < 2 ^ m := Nat.pow_pos (by decide)
    generalize 2 ^ m = P at hp
    have e1 : x = P * (x / P) + x % P := (Nat.div_add_mod x P).symm
    have e2 : x % P < P := Nat.mod_lt _ hp
    generalize x / P = d at e1
    generalize x % P = r at e1 e2
    have e3 : x * 2 + nth B (q + m) % 2 = (P * 2) * d + (2 * r + nth B (q + m) % 2) := by
      rw [e1, Nat.mul_right_comm]; omega
    rw [e3, Nat.mul_add_mod, Nat.mod_eq_of_lt (by omega)]
theorem vB_shift (B : List Nat) (q m k : Nat) : vB B q (m + k) / 2 ^ k = vB B q m := by
  induction k with
  | zero => simp
  | succ k ih =>
    show (2 * vB B q (m + k) + nth B (q + (m + k)) % 2) / 2 ^ (k + 1) = _
    rw [show 2 ^ (k + 1) = 2 * 2 ^ k from by rw [Nat.pow_succ, Nat.mul_comm], ← Nat.div_div_eq_div_mul, show (2 * vB B q (m + k) + nth B (q + (m + k)) % 2) / 2 = vB B q (m + k) from by omega, ih]
theorem la_part (B : List Nat) (q k : Nat) (hk : k ≤ 32) : laX B (q + (32 + k)) / 2 ^ k % 4294967296 = vB B q 32 := by
  have h := la_mod B q (32 + k) (by omega)
  have e : laX B (q + (32 + k)) % 2 ^ (32 + k) / 2 ^ k = laX B (q + (32 + k)) / 2 ^ k % 4294967296 := by
    rw [Nat.pow_add, Nat.mul_comm, Nat.mod_mul_right_div_self]
  rw [← e, h, vB_shift]
/-- bit j, and how many of the first n are set -/
theorem vB_bit (B : List Nat) (q m i : Nat) (hi : i < m) : vB B q m / 2 ^ (m - 1 - i) % 2 = nth B (q + i) % 2 := by
  have h := vB_shift B q (i + 1) (m - 1 - i)
  rw [show i + 1 + (m - 1 - i) = m from by omega] at h
  rw [h]
  show (2 * vB B q i + nth B (q + i) % 2) % 2 = _
  omega
end

section
/-- how many of the 32 bits from q on are not the mark's -/
def wrB (B : List Nat) (q : Nat) (t : Bool) : Nat := pop32 ((if t then 4294967295 - vB B q 32 else vB B q 32) ^^^ 449838109)
theorem wrX_B (B : List Nat) (s : Mx) (n q : Nat) (t : Bool) (hl : s.la = laX B n) (hn : s.tk = n) (h1 : q + 32 ≤ n) (h2 : n ≤ q + 64) : wrX s q t = wrB B q t := by
  unfold wrX wrV wrB
  rw [hl, hn]
  have h := la_part B q (n - q - 32) (by omega)
  rw [show q + (32 + (n - q - 32)) = n from by omega] at h
  rw [h]
/-- gathering: k bits behind the mark at q -/
def Gk (B : List Nat) (q : Nat) (t : Bool) (m k : Nat) : Mx := ⟨1, q + 32 + k, laX B (q + 32 + k), q, t, m, tab (k / 8) (fun i => vB B (q + 32 + 8 * i) 8)⟩
/-- a frame's bytes, as they came -/
def dtB (B : List Nat) (q L : Nat) : List Nat := tab L (fun i => vB B (q + 32 + 8 * i) 8)
theorem inX_la (B : List Nat) (s : Mx) (n : Nat) (hl : s.la = laX B n) : (inX s (nth B n)).la = laX B (n + 1) := by
  show (s.la * 2 + nth B n % 2) % 18446744073709551616 = _
  rw [hl]; rfl
theorem gk_step (r : Rx) (B : List Nat) (q : Nat) (t : Bool) (m k : Nat) (hk : k + 1 < 8 * r.L) : stX r (inX (Gk B q t m k) (nth B (q + 32 + k))) = (Gk B q t m (k + 1), []) := by
  have hla := inX_la B (Gk B q t m k) (q + 32 + k) rfl
  have e : inX (Gk B q t m k) (nth B (q + 32 + k)) = ⟨1, q + 32 + k + 1, laX B (q + 32 + k + 1), q, t, m, tab (k / 8) (fun i => vB B (q + 32 + 8 * i) 8)⟩ := by
    show Mx.mk _ _ _ _ _ _ _ = _
    rw [← hla]; rfl
  rw [e]
  show (if (1 : Nat) = 0 then _ else if (1 : Nat) = 1 then gaX r _ else _) = _
  rw [if_neg (by decide), if_pos rfl]
  unfold gaX
  by_cases h8 : (k + 1) % 8 = 0
  · rw [if_neg (by show ¬ ((q + 32 + k + 1 - q) % 8 ≠ 0); omega)]
    have hd : (k + 1) / 8 = k / 8 + 1 := by omega
    rw [if_neg (by show ¬ ((tab (k / 8) _).length + 1 = r.L); rw [tab_len]; omega)]
    show (Mx.mk _ _ _ _ _ _ _, _) = (Mx.mk _ _ _ _ _ _ _, _)
    have hv : laX B (q + 32 + k + 1) % 256 = vB B (q + 32 + 8 * (k / 8)) 8 := by
      have := la_mod B (q + 32 + 8 * (k / 8)) 8 (by decide)
      rw [show q + 32 + 8 * (k / 8) + 8 = q + 32 + k + 1 from by omega] at this
      exact this
    rw [hd, tab_succ]
    show (Mx.mk _ _ _ _ _ _ (tab (k / 8) _ ++ [laX B (q + 32 + k + 1) % 256]), _) = _
    rw [hv]; rfl
  · rw [if_pos (by show (q + 32 + k + 1 - q) % 8 ≠ 0; omega)]
    show (Mx.mk _ _ _ _ _ _ _, _) = (Mx.mk _ _ _ _ _ _ _, _)
    rw [show (k + 1) / 8 = k / 8 from by omega]; rfl
theorem gk_last (r : Rx) (B : List Nat) (q : Nat) (t : Bool) (m k : Nat) (hk : k + 1 = 8 * r.L) : stX r (inX (Gk B q t m k) (nth B (q + 32 + k))) = (⟨2, q + 32 + 8 * r.L, laX B (q + 32 + 8 * r.L), q + 32 + 8 * r.L, t, m, []⟩, [(q, t, m, scrL (tuD t (dtB B q r.L)))]) := by
  have hla := inX_la B (Gk B q t m k) (q + 32 + k) rfl
  have e : inX (Gk B q t m k) (nth B (q + 32 + k)) = ⟨1, q + 32 + k + 1, laX B (q + 32 + k + 1), q, t, m, tab (k / 8) (fun i => vB B (q + 32 + 8 * i) 8)⟩ := by
    show Mx.mk _ _ _ _ _ _ _ = _
    rw [← hla]; rfl
  rw [e]
  show (if (1 : Nat) = 0 then _ else if (1 : Nat) = 1 then gaX r _ else _) = _
  rw [if_neg (by decide), if_pos rfl]
  unfold gaX
  rw [if_neg (by show ¬ ((q + 32 + k + 1 - q) % 8 ≠ 0); omega)]
  rw [if_pos (by show (tab (k / 8) _).length + 1 = r.L; rw [tab_len]; omega)]
  have hv : laX B (q + 32 + k + 1) % 256 = vB B (q + 32 + 8 * (k / 8)) 8 := by
    have := la_mod B (q + 32 + 8 * (k / 8)) 8 (by decide)
    rw [show q + 32 + 8 * (k / 8) + 8 = q + 32 + k + 1 from by omega] at this
    exact this
  show (Mx.mk _ _ _ _ _ _ _, [(q, t, m, scrL (tuD t (tab (k / 8) _ ++ [laX B (q + 32 + k + 1) % 256])))]) = _
  rw [hv]
  unfold dtB
  rw [show r.L = k / 8 + 1 from by omega, tab_succ, show q + 32 + 8 * (k / 8 + 1) = q + 32 + k + 1 from by omega]
/-- a frame is gathered, from whatever bit behind its mark on -/
theorem gk_all (r : Rx) (B : List Nat) (q : Nat) (t : Bool) (m x : Nat) (T : List Fa) (hL : 1 ≤ r.L) (hx : x < 8) (h : tkX r s0X B (q + 32 + x) = (Gk B q t m x, T)) : tkX r s0X B (q + 32 + 8 * r.L) = (⟨2, q + 32 + 8 * r.L, laX B (q + 32 + 8 * r.L), q + 32 + 8 * r.L, t, m, []⟩, T ++ [(q, t, m, scrL (tuD t (dtB B q r.L)))]) := by
  have key : ∀ k, x ≤ k → k + 1 ≤ 8 * r.L → tkX r s0X B (q + 32 + k) = (Gk B q t m k, T) := by
    intro k
    induction k with
    | zero => intro h1 _; have e : x = 0 := by omega
              rw [e] at h; exact h
    | succ k ih =>
      intro h1 h2
      by_cases hk : x = k + 1
      · rw [← hk]; exact h
      · have hi := ih (by omega) (by omega)
        show ((stX r (inX (tkX r s0X B (q + 32 + k)).1 (nth B (q + 32 + k)))).1, (tkX r s0X B (q + 32 + k)).2 ++ (stX r (inX (tkX r s0X B (q + 32 + k)).1 (nth B (q + 32 + k)))).2) = _
        rw [hi]
        show ((stX r (inX (Gk B q t m k) (nth B (q + 32 + k)))).1, T ++ (stX r (inX (Gk B q t m k) (nth B (q + 32 + k)))).2) = _
        rw [gk_step r B q t m k (by omega)]
        simp
  have hl := key (8 * r.L - 1) (by omega) (by omega)
  rw [show q + 32 + 8 * r.L = (q + 32 + (8 * r.L - 1)) + 1 from by omega]
  show ((stX r (inX (tkX r s0X B (q + 32 + (8 * r.L - 1))).1 (nth B (q + 32 + (8 * r.L - 1))))).1, (tkX r s0X B (q + 32 + (8 * r.L - 1))).2 ++ (stX r (inX (tkX r s0X B (q + 32 + (8 * r.L - 1))).1 (nth B (q + 32 + (8 * r.L - 1))))).2) = _
  rw [hl]
  show ((stX r (inX (Gk B q t m (8 * r.L - 1)) (nth B (q + 32 + (8 * r.L - 1))))).1, T ++ (stX r (inX (Gk B q t m (8 * r.L - 1)) (nth B (q + 32 + (8 * r.L - 1))))).2) = _
  rw [gk_last r B q t m (8 * r.L - 1) (by omega), show q + 32 + (8 * r.L - 1) + 1 = q + 32 + 8 * r.L from by omega]
/-- a mark is expected: nothing is done till enough bits are there -/
theorem ex_wait (r : Rx) (B : List Nat) (q : Nat) (t : Bool) (m : Nat) (T : List Fa) (h : tkX r s0X B q = (⟨2, q, laX B q, q, t, m, []⟩, T)) : ∀ k, k ≤ 31 → tkX r s0X B (q + k) = (⟨2, q + k, laX B (q + k), q, t, m, []⟩, T) := by
  intro k
  induction k with
  | zero => intro _; exact h
  | succ k ih =>
    intro hk
    have hi := ih (by omega)
    show ((stX r (inX (tkX r s0X B (q + k)).1 (nth B (q + k)))).1, (tkX r s0X B (q + k)).2 ++ (stX r (inX (tkX r s0X B (q + k)).1 (nth B (q + k)))).2) = _
    rw [hi]
    show ((exX r (Mx.mk 2 (q + k + 1) (laX B (q + k + 1)) q t m [])), T ++ []) = _
    unfold exX
    rw [if_neg (by show ¬ q + k + 1 = q + 32; omega), if_neg (by show ¬ q + k + 1 = q + 33; omega), List.append_nil]
    rfl
theorem ex_here (r : Rx) (B : List Nat) (q : Nat) (t : Bool) (m : Nat) (T : List Fa) (h : tkX r s0X B q = (⟨2, q, laX B q, q, t, m, []⟩, T)) (hw : wrB B q t ≤ r.H) : tkX r s0X B (q + 32 + 0) = (Gk B q t 0 0, T) := by
  have hi := ex_wait r B q t m T h 31 (by decide)
  show ((stX r (inX (tkX r s0X B (q + 31)).1 (nth B (q + 31)))).1, (tkX r s0X B (q + 31)).2 ++ (stX r (inX (tkX r s0X B (q + 31)).1 (nth B (q + 31)))).2) = _
  rw [hi]
  show ((exX r (Mx.mk 2 (q + 32) (laX B (q + 32)) q t m [])), T ++ []) = _
  unfold exX
  have e := wrX_B B (Mx.mk 2 (q + 32) (laX B (q + 32)) q t m []) (q + 32) q t rfl rfl (by omega) (by omega)
  rw [if_pos (by show q + 32 = q + 32; rfl), if_pos (by show wrX _ q t ≤ r.H; rw [e]; exact hw), List.append_nil]
  rfl
theorem ex_more (r : Rx) (B : List Nat) (q : Nat) (t : Bool) (m : Nat) (T : List Fa) (h : tkX r s0X B q = (⟨2, q, laX B q, q, t, m, []⟩, T)) (hw : ¬ wrB B q t ≤ r.H) : tkX r s0X B (q + 33) = (deX r (Mx.mk 2 (q + 33) (laX B (q + 33)) q t m []), T) := by
  have hi := ex_wait r B q t m T h 31 (by decide)
  have hj : tkX r s0X B (q + 32) = (⟨2, q + 32, laX B (q + 32), q, t, m, []⟩, T) := by
    show ((stX r (inX (tkX r s0X B (q + 31)).1 (nth B (q + 31)))).1, (tkX r s0X B (q + 31)).2 ++ (stX r (inX (tkX r s0X B (q + 31)).1 (nth B (q + 31)))).2) = _
    rw [hi]
    show ((exX r (Mx.mk 2 (q + 32) (laX B (q + 32)) q t m [])), T ++ []) = _
    unfold exX
    have e := wrX_B B (Mx.mk 2 (q + 32) (laX B (q + 32)) q t m []) (q + 32) q t rfl rfl (by omega) (by omega)
    rw [if_pos (by show q + 32 = q + 32; rfl), if_neg (by show ¬ wrX _ q t ≤ r.H; rw [e]; exact hw), List.append_nil]
  show ((stX r (inX (tkX r s0X B (q + 32)).1 (nth B (q + 32)))).1, (tkX r s0X B (q + 32)).2 ++ (stX r (inX (tkX r s0X B (q + 32)).1 (nth B (q + 32)))).2) = _
  rw [hj]
  show ((exX r (Mx.mk 2 (q + 33) (laX B (q + 33)) q t m [])), T ++ []) = _
  unfold exX
  rw [if_neg (by show ¬ q + 33 = q + 32; omega), if_pos (by show q + 33 = q + 33; rfl), List.append_nil]
/-- a bit came too many: it lies one bit behind -/
theorem ex_many (r : Rx) (B : List Nat) (q : Nat) (t : Bool) (m : Nat) (T : List Fa) (hq : 1 ≤ q) (h : tkX r s0X B q = (⟨2, q, laX B q, q, t, m, []⟩, T)) (hw : ¬ wrB B q t ≤ r.H) (h1 : ¬ wrB B (q - 1) t ≤ r.F) (h2 : wrB B (q + 1) t ≤ r.F) : tkX r s0X B (q + 1 + 32 + 0) = (Gk B (q + 1) t 0 0, T) := by
  rw [show q + 1 + 32 + 0 = q + 33 from by omega, ex_more r B q t m T h hw]
  unfold deX
  have e := wrX_B B (Mx.mk 2 (q + 33) (laX B (q + 33)) q t m []) (q + 33) (q - 1) t rfl rfl (by omega) (by omega)
  have e2 := wrX_B B (Mx.mk 2 (q + 33) (laX B (q + 33)) q t m []) (q + 33) (q + 1) t rfl rfl (by omega) (by omega)
  rw [if_neg (by show ¬ wrX _ (q - 1) t ≤ r.F; rw [e]; exact h1), if_pos (by show wrX _ (q + 1) t ≤ r.F; rw [e2]; exact h2)]
  unfold Gk
  rw [show q + 1 + 32 + 0 = q + 33 from by omega]
  rfl
/-- at the beginning one searches at the first bit -/
theorem s0_wait (r : Rx) (B : List Nat) : ∀ k, k ≤ 31 → tkX r s0X B k = (⟨0, k, laX B k, 0, false, 0, []⟩, []) := by
  intro k
  induction k with
  | zero => intro _; rfl
  | succ k ih =>
    intro hk
    have hi := ih (by omega)
    show ((stX r (inX (tkX r s0X B k).1 (nth B k))).1, (tkX r s0X B k).2 ++ (stX r (inX (tkX r s0X B k).1 (nth B k))).2) = _
    rw [hi]
    show (sgX r (Mx.mk 0 (k + 1) (laX B (k + 1)) 0 false 0 []), [] ++ []) = _
    rw [sgX_lt r _ (by show k + 1 < 0 + 32; omega)]
    rfl
theorem s0_first (r : Rx) (B : List Nat) (t : Bool) (h1 : t = true → ¬ wrB B 0 false ≤ r.F) (h2 : wrB B 0 t ≤ r.F) : tkX r s0X B (0 + 32 + 0) = (Gk B 0 t 0 0, []) := by
  have hi := s0_wait r B 31 (by decide)
  show ((stX r (inX (tkX r s0X B 31).1 (nth B 31))).1, (tkX r s0X B 31).2 ++ (stX r (inX (tkX r s0X B 31).1 (nth B 31))).2) = _
  rw [hi]
  show (sgX r (Mx.mk 0 32 (laX B 32) 0 false 0 []), [] ++ []) = _
  have e := fun t => wrX_B B (Mx.mk 0 32 (laX B 32) 0 false 0 []) 32 0 t rfl rfl (by omega) (by omega)
  cases t with
  | false =>
    rw [sgX_f r _ (by show ¬ 32 < 0 + 32; omega) (by show wrX _ 0 false ≤ r.F; rw [e]; exact h2)]
    rfl
  | true =>
    rw [sgX_t r _ (by show ¬ 32 < 0 + 32; omega) (by show ¬ wrX _ 0 false ≤ r.F; rw [e]; exact h1 rfl) (by show wrX _ 0 true ≤ r.F; rw [e]; exact h2)]
    rfl
end
end Go.Proofs.Ythdjpbfknbafgaa
