import Derived.Test.YtnimehkfnpepfaaWh3
import Derived.Test.YtnimehkfnpepfaaWh1
import Derived.Test.YtnimehkfnpepfaaWh2
import Derived.Test.YtnimehkfnpepfaaWh0
import Derived.Lib.AppendZerosOnto
import Derived.Deep.DeepAppendWide
namespace Go.Proofs.Ytnimehkfnpepfaa
open Go.RowKit
set_option maxRecDepth 100000
set_option linter.unusedVariables false
set_option linter.unusedSimpArgs false

section
theorem Ans.up {w : World} {lo : Nat} {a : Option Addr} {n cap : Nat} {L : List Nat} (h : Ans w lo a n cap L) : w.ownsRow lo 5 1 (.slice a n cap) n (bys L) := by
  refine ⟨h.own.1, ?_⟩
  rcases h.own.2 with h1 | ⟨g, c1, cur, h1, h2, h3⟩
  · exact .inl h1
  · refine .inr ⟨g, c1, cur, h1, ?_, h3⟩
    simp only [Value.slice.injEq] at h1
    obtain ⟨rfl, _, _⟩ := h1
    exact h.new g rfl
/-- 'append(v, x...)', v an answer, x whatever bytes -/
theorem wpList_joinZ {w : World} {ops : Array Oper} {rest : List Oper} {o : Oper} {a : Act} {Q : Exit → Act → World → Prop} (hg : o.guard = none) (s x : Operand)
    (hop : o.op = Op.call { callee := .builtin .append, args := #[s, x], argTypes := #[23, 23] }) (ao : Option Addr) (m co lo : Nat) (D : List Nat) (hs : a.eval s = .slice ao m co)
    (hA : Ans w lo ao m co D) (hlo : lo ≤ w.heap.size) (ax : Option Addr) (nx cx : Nat) (X : List Nat) (hx : a.eval x = .slice ax nx cx) (hR : Rd w ax nx cx X) (hb : m + nx ≤ 200000000000000)
    (hK : ∀ a' c' w', Ans w' lo a' (m + nx) c' (D ++ X) → w.grownBy w' (Value.slice ao m co).ownBlock → wpList Try.prog ops Q rest (a.put o.dst (.slice a' (m + nx) c')) w') :
    wpList Try.prog ops Q (o :: rest) a w := by
  obtain ⟨i0, hi, hz0, hz1, hz2⟩ := info_parts Try.info_u8
  cases ax with
  | none =>
    have hc0 : cx = 0 := hR.nil rfl
    have hn0 : nx = 0 := by have := hR.le; omega
    subst hc0 hn0
    have e : X = [] := List.eq_nil_of_length_eq_zero hR.len
    subst e
    refine wpList_append_own_none hg s x 23 hop 0 5 i0 1 Try.underlying23 hi (.slice ao m co) m (bys D) hs hA.own hx ?_
    exact hK ao co w (by rw [List.append_nil]; exact hA) (World.grownBy.refl _ _)
  | some ad =>
    refine wpList_append_own_wide w hg s x 23 hop lo 5 i0 (.int .u8 0) 1 1 Try.underlying23 hi hz0 hz1 hz2 rfl (by decide) (.slice ao m co) m (bys D) hs hA.up ad nx cx (bys X) hx (by rw [bys_length, hR.len]; omega) ?_ (bys_one _) (by unfold maxLen; omega) (by omega) hlo ?_
    · intro j u hu
      have hj : j < X.length := by
        have := (List.getElem?_eq_some_iff.1 hu).1
        rw [bys_length] at this; exact this
      have h0 : 0 < nx := by rw [hR.len] at hj; omega
      obtain ⟨b, off, e, _, hc⟩ := hR.at' h0
      cases e
      rw [nth_bys X j hj] at hu
      rw [← hu, addr_add]
      exact hc j (by rw [← hR.len]; exact hj)
    · intro v' w' hown hgr _
      rw [bys_app] at hown
      have hown' := hown
      rcases hown.2 with ⟨h1, h2⟩ | ⟨g, c1, cur, h1, h2, h3⟩
      · subst h1
        have e0 : m + nx = 0 := h2
        have hq := hK none 0 w' ⟨by rw [e0]; exact own_base (by rw [e0] at hown'; exact hown'), isB_append hA.byte hR.byte, fun g h => by simp [Value.ownBlock] at h⟩ hgr
        rw [e0] at hq
        exact hq
      · subst h1
        exact hK (some ⟨g, 0, none⟩) c1 w' ⟨own_base hown', isB_append hA.byte hR.byte, fun g' h => by have e : g = g' := Option.some.inj h; omega⟩ hgr
theorem BxS.cell13 {w : World} {g : Nat} {t : TypeId} {a0 a1 a2 a3 a4 a5 a6 a7 a8 a9 a10 a11 a12 : Value} (k : BxS w g t #[a0, a1, a2, a3, a4, a5, a6, a7, a8, a9, a10, a11, a12]) : w.cell? ⟨g, 0, none⟩ = some a0 ∧ w.cell? ⟨g, 1, none⟩ = some a1 ∧ w.cell? ⟨g, 2, none⟩ = some a2 ∧ w.cell? ⟨g, 3, none⟩ = some a3 ∧ w.cell? ⟨g, 4, none⟩ = some a4 ∧ w.cell? ⟨g, 5, none⟩ = some a5 ∧ w.cell? ⟨g, 6, none⟩ = some a6 ∧ w.cell? ⟨g, 7, none⟩ = some a7 ∧ w.cell? ⟨g, 8, none⟩ = some a8 ∧ w.cell? ⟨g, 9, none⟩ = some a9 ∧ w.cell? ⟨g, 10, none⟩ = some a10 ∧ w.cell? ⟨g, 11, none⟩ = some a11 ∧ w.cell? ⟨g, 12, none⟩ = some a12 := by
  simp [World.cell?, show w.heap[g]? = _ from k]
theorem BxS.cell14 {w : World} {g : Nat} {t : TypeId} {a0 a1 a2 a3 a4 a5 a6 a7 a8 a9 a10 a11 a12 a13 : Value} (k : BxS w g t #[a0, a1, a2, a3, a4, a5, a6, a7, a8, a9, a10, a11, a12, a13]) : w.cell? ⟨g, 0, none⟩ = some a0 ∧ w.cell? ⟨g, 1, none⟩ = some a1 ∧ w.cell? ⟨g, 2, none⟩ = some a2 ∧ w.cell? ⟨g, 3, none⟩ = some a3 ∧ w.cell? ⟨g, 4, none⟩ = some a4 ∧ w.cell? ⟨g, 5, none⟩ = some a5 ∧ w.cell? ⟨g, 6, none⟩ = some a6 ∧ w.cell? ⟨g, 7, none⟩ = some a7 ∧ w.cell? ⟨g, 8, none⟩ = some a8 ∧ w.cell? ⟨g, 9, none⟩ = some a9 ∧ w.cell? ⟨g, 10, none⟩ = some a10 ∧ w.cell? ⟨g, 11, none⟩ = some a11 ∧ w.cell? ⟨g, 12, none⟩ = some a12 ∧ w.cell? ⟨g, 13, none⟩ = some a13 := by
  simp [World.cell?, show w.heap[g]? = _ from k]
theorem dwithin_any (n l m : Int) (w : World) : Calls Try.prog 84 #[.int .i64 n, .int .i64 l, .int .i64 m] w fun e w' => e = .returned (.bool (kwB n l m)) ∧ w' = w := by
  by_cases h1 : l ≤ n
  · by_cases h2 : n ≤ m
    · rw [kwB_t ⟨h1, h2⟩]
      go_enter Try.func84, Try.ntmps84
      go_wp2
      go_ret
      exact ⟨rfl, rfl⟩
    · rw [kwB_f (fun h => h2 h.2)]
      go_enter Try.func84, Try.ntmps84
      go_wp2
      go_ret
      exact ⟨rfl, rfl⟩
  · rw [kwB_f (fun h => h1 h.1)]
    go_enter Try.func84, Try.ntmps84
    go_wp2
    go_ret
    exact ⟨rfl, rfl⟩
theorem nameMay_any (s : ByteArray) (w : World) : Calls Try.prog 90 #[.string s] w fun e w' => e = .returned (.bool (kwB s.size 1 32)) ∧ w' = w := by
  have h := fun wz => dwithin_any s.size 1 32 wz
  go_enter Try.func90, Try.ntmps90
  go_wp2_with (go_at_call 84; refine (h _).mono ?_; rintro e w1 ⟨rfl, rfl⟩)
  go_ret
  exact ⟨rfl, rfl⟩
/-- why neither a giver nor a taker may have these -/
def dsB (id pa li : Int) : Bool := kwB id 0 65535 && kwB pa 1 1000 && kwB li 1 100
def dsE (id pa li : Int) : Nat := if dsB id pa li = true then 0 else 2
theorem wrongSide_any (id pa li : Int) (w : World) : Calls Try.prog 58 #[.int .i64 id, .int .i64 pa, .int .i64 li] w fun e w' => e = .returned (.int .i64 (dsE id pa li : Nat)) ∧ w' = w := by
  have h0 := fun wz => dwithin_any id 0 65535 wz
  have h1 := fun wz => dwithin_any pa 1 1000 wz
  have h2 := fun wz => dwithin_any li 1 100 wz
  unfold dsE dsB
  generalize kwB id 0 65535 = b0 at h0 ⊢
  generalize kwB pa 1 1000 = b1 at h1 ⊢
  generalize kwB li 1 100 = b2 at h2 ⊢
  have t0 : True := trivial
  cases b0 <;> cases b1 <;> cases b2 <;>
  · go_enter Try.func58, Try.ntmps58
    go_wp2_with (first
      | (go_at_call 84; have _t := t0; clear t0; refine (h0 _).mono ?_; rintro e w1 ⟨rfl, rfl⟩; have t1 : True := trivial)
      | (go_at_call 84; have _t := t1; clear t1; refine (h1 _).mono ?_; rintro e w1 ⟨rfl, rfl⟩; have t2 : True := trivial)
      | (go_at_call 84; have _t := t2; clear t2; refine (h2 _).mono ?_; rintro e w1 ⟨rfl, rfl⟩))
    go_ret
    exact ⟨rfl, rfl⟩
end

section
/-- a giver's cells -/
def gvA (id : Int) (nm : ByteArray) (fl : Value) (mo bu st : Int) (fi : Bool) (at' : Int) (ag : Value) (ti pa tr li : Int) : Array Value := #[.int .i64 id, .string nm, fl, .int .i64 mo, .int .i64 bu, .int .i64 st, .bool fi, .int .i64 at', ag, .int .i64 ti, .int .i64 pa, .int .i64 tr, .int .i64 li]
def ofB (id pa li mo bu : Int) : Bool := dsB id pa li && kwB mo 1 1024 && kwB bu 1 50
def ofC (nm : Nat) (n : Nat) : Bool := kwB nm 1 32 && decide (n ≤ 65536)
def ofE (id pa li mo bu : Int) (nm n : Nat) : Nat := if ofB id pa li mo bu = true then (if ofC nm n = true then 0 else 1) else 2
theorem Try.info_gv : (Try.prog.info? 44).map (fun i => i.size) = some 13 := by kernel_rfl
theorem Try.info_tk : (Try.prog.info? 48).map (fun i => i.size) = some 14 := by kernel_rfl
set_option maxHeartbeats 4000000 in
theorem wrongOffer_any (id : Int) (nm : ByteArray) (a : Option Addr) (n cap : Nat) (mo bu st : Int) (fi : Bool) (at' : Int) (ag : Value) (ti pa tr li : Int) (w : World) :
    Calls Try.prog 56 #[.agg (gvA id nm (.slice a n cap) mo bu st fi at' ag ti pa tr li)] w fun e w' => e = .returned (.int .i64 (ofE id pa li mo bu nm.size n : Nat)) ∧ w.grownBy w' none := by
  have h0 := fun wz => wrongSide_any id pa li wz
  have h1 := fun wz => dwithin_any mo 1 1024 wz
  have h2 := fun wz => dwithin_any bu 1 50 wz
  have h3 := fun wz => nameMay_any nm wz
  have gA := World.grownBy_alloc w (.cells #[.int .i64 id, .string nm, .slice a n cap, .int .i64 mo, .int .i64 bu, .int .i64 st, .bool fi, .int .i64 at', ag, .int .i64 ti, .int .i64 pa, .int .i64 tr, .int .i64 li] 44) none
  unfold ofE ofB ofC
  unfold dsE at h0
  unfold gvA
  generalize dsB id pa li = b0 at h0 ⊢
  generalize kwB mo 1 1024 = b1 at h1 ⊢
  generalize kwB bu 1 50 = b2 at h2 ⊢
  generalize kwB nm.size 1 32 = b3 at h3 ⊢
  have t0 : True := trivial
  cases b0
  case false =>
    go_enter Try.func56, Try.ntmps56
    go_wp2_with (first
      | (go_at_call 58; refine (h0 _).mono ?_; rintro e w1 ⟨rfl, rfl⟩)
      | (go_at_call 84; have _t := t0; clear t0; refine (h1 _).mono ?_; rintro e w1 ⟨rfl, rfl⟩; have t1 : True := trivial)
      | (go_at_call 84; have _t := t1; clear t1; refine (h2 _).mono ?_; rintro e w1 ⟨rfl, rfl⟩)
      | (go_at_call 90; refine (h3 _).mono ?_; rintro e w1 ⟨rfl, rfl⟩))
    go_ret
    exact ⟨rfl, gA⟩
  cases b1
  case false =>
    go_enter Try.func56, Try.ntmps56
    go_wp2_with (first
      | (go_at_call 58; refine (h0 _).mono ?_; rintro e w1 ⟨rfl, rfl⟩)
      | (go_at_call 84; have _t := t0; clear t0; refine (h1 _).mono ?_; rintro e w1 ⟨rfl, rfl⟩; have t1 : True := trivial)
      | (go_at_call 84; have _t := t1; clear t1; refine (h2 _).mono ?_; rintro e w1 ⟨rfl, rfl⟩)
      | (go_at_call 90; refine (h3 _).mono ?_; rintro e w1 ⟨rfl, rfl⟩))
    go_ret
    exact ⟨rfl, gA⟩
  cases b2
  case false =>
    go_enter Try.func56, Try.ntmps56
    go_wp2_with (first
      | (go_at_call 58; refine (h0 _).mono ?_; rintro e w1 ⟨rfl, rfl⟩)
      | (go_at_call 84; have _t := t0; clear t0; refine (h1 _).mono ?_; rintro e w1 ⟨rfl, rfl⟩; have t1 : True := trivial)
      | (go_at_call 84; have _t := t1; clear t1; refine (h2 _).mono ?_; rintro e w1 ⟨rfl, rfl⟩)
      | (go_at_call 90; refine (h3 _).mono ?_; rintro e w1 ⟨rfl, rfl⟩))
    go_ret
    exact ⟨rfl, gA⟩
  cases b3
  case false =>
    go_enter Try.func56, Try.ntmps56
    go_wp2_with (first
      | (go_at_call 58; refine (h0 _).mono ?_; rintro e w1 ⟨rfl, rfl⟩)
      | (go_at_call 84; have _t := t0; clear t0; refine (h1 _).mono ?_; rintro e w1 ⟨rfl, rfl⟩; have t1 : True := trivial)
      | (go_at_call 84; have _t := t1; clear t1; refine (h2 _).mono ?_; rintro e w1 ⟨rfl, rfl⟩)
      | (go_at_call 90; refine (h3 _).mono ?_; rintro e w1 ⟨rfl, rfl⟩))
    go_ret
    exact ⟨rfl, gA⟩
  by_cases hf : n ≤ 65536
  · rw [decide_eq_true hf]
    have hf' : ¬ (65536 < (n : Int)) := by omega
    go_enter Try.func56, Try.ntmps56
    go_wp2_with (first
      | (go_at_call 58; refine (h0 _).mono ?_; rintro e w1 ⟨rfl, rfl⟩)
      | (go_at_call 84; have _t := t0; clear t0; refine (h1 _).mono ?_; rintro e w1 ⟨rfl, rfl⟩; have t1 : True := trivial)
      | (go_at_call 84; have _t := t1; clear t1; refine (h2 _).mono ?_; rintro e w1 ⟨rfl, rfl⟩)
      | (go_at_call 90; refine (h3 _).mono ?_; rintro e w1 ⟨rfl, rfl⟩))
    go_ret
    exact ⟨rfl, gA⟩
  · rw [decide_eq_false hf]
    have hf' : 65536 < (n : Int) := by omega
    go_enter Try.func56, Try.ntmps56
    go_wp2_with (first
      | (go_at_call 58; refine (h0 _).mono ?_; rintro e w1 ⟨rfl, rfl⟩)
      | (go_at_call 84; have _t := t0; clear t0; refine (h1 _).mono ?_; rintro e w1 ⟨rfl, rfl⟩; have t1 : True := trivial)
      | (go_at_call 84; have _t := t1; clear t1; refine (h2 _).mono ?_; rintro e w1 ⟨rfl, rfl⟩)
      | (go_at_call 90; refine (h3 _).mono ?_; rintro e w1 ⟨rfl, rfl⟩))
    go_ret
    exact ⟨rfl, gA⟩
end
end Go.Proofs.Ytnimehkfnpepfaa
