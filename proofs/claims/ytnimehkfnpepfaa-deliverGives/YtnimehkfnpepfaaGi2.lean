import Derived.Deep.DeepAppendWide
import Derived.Laws.AppendOwnNone
import Derived.Lib.AppendZerosOnto
import Derived.Test.YtnimehkfnpepfaaGi1
import Derived.Deep.RegionLawGrows
import Derived.Deep.WholeRow
import Derived.Laws.ResultCell
import Derived.Test.YtnimehkfnpepfaaGi0
import Derived.Lib.AppendStr
namespace Go.Proofs.Ytnimehkfnpepfaa
open Go.RowKit
set_option maxRecDepth 100000
set_option linter.unusedVariables false
set_option linter.unusedSimpArgs false

section
theorem Ans.up {w : World} {lo : Nat} {a : Option Addr} {n cap : Nat} {L : List Nat} (h : Ans w lo a n cap L) : w.ownsRow lo 5 1 (.slice a n cap) n (bys L) := by
  refine ⟨h.own.1, ?_⟩
  rcases h.own.2 with h1 | ⟨g, c1, cur, h1, h2, h3⟩
  · exact .inl h1
  · refine .inr ⟨g, c1, cur, h1, ?_, h3⟩
    simp only [Value.slice.injEq] at h1
    obtain ⟨rfl, _, _⟩ := h1
    exact h.new g rfl
/-- 'append(v, x...)', v an answer, x whatever bytes -/
theorem wpList_joinZ {w : World} {ops : Array Oper} {rest : List Oper} {o : Oper} {a : Act} {Q : Exit → Act → World → Prop} (hg : o.guard = none) (s x : Operand)
    (hop : o.op = Op.call { callee := .builtin .append, args := #[s, x], argTypes := #[23, 23] }) (ao : Option Addr) (m co lo : Nat) (D : List Nat) (hs : a.eval s = .slice ao m co)
    (hA : Ans w lo ao m co D) (hlo : lo ≤ w.heap.size) (ax : Option Addr) (nx cx : Nat) (X : List Nat) (hx : a.eval x = .slice ax nx cx) (hR : Rd w ax nx cx X) (hb : m + nx ≤ 200000000000000)
    (hK : ∀ a' c' w', Ans w' lo a' (m + nx) c' (D ++ X) → w.grownBy w' (Value.slice ao m co).ownBlock → wpList Try.prog ops Q rest (a.put o.dst (.slice a' (m + nx) c')) w') :
    wpList Try.prog ops Q (o :: rest) a w := by
  obtain ⟨i0, hi, hz0, hz1, hz2⟩ := info_parts Try.info_u8
  cases ax with
  | none =>
    have hc0 : cx = 0 := hR.nil rfl
    have hn0 : nx = 0 := by have := hR.le; omega
    subst hc0 hn0
    have e : X = [] := List.eq_nil_of_length_eq_zero hR.len
    subst e
    refine wpList_append_own_none hg s x 23 hop 0 5 i0 1 Try.underlying23 hi (.slice ao m co) m (bys D) hs hA.own hx ?_
    exact hK ao co w (by rw [List.append_nil]; exact hA) (World.grownBy.refl _ _)
  | some ad =>
    refine wpList_append_own_wide w hg s x 23 hop lo 5 i0 (.int .u8 0) 1 1 Try.underlying23 hi hz0 hz1 hz2 rfl (by decide) (.slice ao m co) m (bys D) hs hA.up ad nx cx (bys X) hx (by rw [bys_length, hR.len]; omega) ?_ (bys_one _) (by unfold maxLen; omega) (by omega) hlo ?_
    · intro j u hu
      have hj : j < X.length := by
        have := (List.getElem?_eq_some_iff.1 hu).1
        rw [bys_length] at this; exact this
      have h0 : 0 < nx := by rw [hR.len] at hj; omega
      obtain ⟨b, off, e, _, hc⟩ := hR.at' h0
      cases e
      rw [nth_bys X j hj] at hu
      rw [← hu, addr_add]
      exact hc j (by rw [← hR.len]; exact hj)
    · intro v' w' hown hgr _
      rw [bys_app] at hown
      have hown' := hown
      rcases hown.2 with ⟨h1, h2⟩ | ⟨g, c1, cur, h1, h2, h3⟩
      · subst h1
        have e0 : m + nx = 0 := h2
        have hq := hK none 0 w' ⟨by rw [e0]; exact own_base (by rw [e0] at hown'; exact hown'), isB_append hA.byte hR.byte, fun g h => by simp [Value.ownBlock] at h⟩ hgr
        rw [e0] at hq
        exact hq
      · subst h1
        exact hK (some ⟨g, 0, none⟩) c1 w' ⟨own_base hown', isB_append hA.byte hR.byte, fun g' h => by have e : g = g' := Option.some.inj h; omega⟩ hgr
theorem BxS.cell13 {w : World} {g : Nat} {t : TypeId} {a0 a1 a2 a3 a4 a5 a6 a7 a8 a9 a10 a11 a12 : Value} (k : BxS w g t #[a0, a1, a2, a3, a4, a5, a6, a7, a8, a9, a10, a11, a12]) : w.cell? ⟨g, 0, none⟩ = some a0 ∧ w.cell? ⟨g, 1, none⟩ = some a1 ∧ w.cell? ⟨g, 2, none⟩ = some a2 ∧ w.cell? ⟨g, 3, none⟩ = some a3 ∧ w.cell? ⟨g, 4, none⟩ = some a4 ∧ w.cell? ⟨g, 5, none⟩ = some a5 ∧ w.cell? ⟨g, 6, none⟩ = some a6 ∧ w.cell? ⟨g, 7, none⟩ = some a7 ∧ w.cell? ⟨g, 8, none⟩ = some a8 ∧ w.cell? ⟨g, 9, none⟩ = some a9 ∧ w.cell? ⟨g, 10, none⟩ = some a10 ∧ w.cell? ⟨g, 11, none⟩ = some a11 ∧ w.cell? ⟨g, 12, none⟩ = some a12 := by
  simp [World.cell?, show w.heap[g]? = _ from k]
theorem BxS.cell14 {w : World} {g : Nat} {t : TypeId} {a0 a1 a2 a3 a4 a5 a6 a7 a8 a9 a10 a11 a12 a13 : Value} (k : BxS w g t #[a0, a1, a2, a3, a4, a5, a6, a7, a8, a9, a10, a11, a12, a13]) : w.cell? ⟨g, 0, none⟩ = some a0 ∧ w.cell? ⟨g, 1, none⟩ = some a1 ∧ w.cell? ⟨g, 2, none⟩ = some a2 ∧ w.cell? ⟨g, 3, none⟩ = some a3 ∧ w.cell? ⟨g, 4, none⟩ = some a4 ∧ w.cell? ⟨g, 5, none⟩ = some a5 ∧ w.cell? ⟨g, 6, none⟩ = some a6 ∧ w.cell? ⟨g, 7, none⟩ = some a7 ∧ w.cell? ⟨g, 8, none⟩ = some a8 ∧ w.cell? ⟨g, 9, none⟩ = some a9 ∧ w.cell? ⟨g, 10, none⟩ = some a10 ∧ w.cell? ⟨g, 11, none⟩ = some a11 ∧ w.cell? ⟨g, 12, none⟩ = some a12 ∧ w.cell? ⟨g, 13, none⟩ = some a13 := by
  simp [World.cell?, show w.heap[g]? = _ from k]
theorem dwithin_any (n l m : Int) (w : World) : Calls Try.prog 84 #[.int .i64 n, .int .i64 l, .int .i64 m] w fun e w' => e = .returned (.bool (kwB n l m)) ∧ w' = w := by
  by_cases h1 : l ≤ n
  · by_cases h2 : n ≤ m
    · rw [kwB_t ⟨h1, h2⟩]
      go_enter Try.func84, Try.ntmps84
      go_wp2
      go_ret
      exact ⟨rfl, rfl⟩
    · rw [kwB_f (fun h => h2 h.2)]
      go_enter Try.func84, Try.ntmps84
      go_wp2
      go_ret
      exact ⟨rfl, rfl⟩
  · rw [kwB_f (fun h => h1 h.1)]
    go_enter Try.func84, Try.ntmps84
    go_wp2
    go_ret
    exact ⟨rfl, rfl⟩
theorem inRange_any (n l m : Int) (w : World) : Calls Try.prog 55 #[.int .i64 n, .int .i64 l, .int .i64 m] w fun e w' => e = .returned (.bool (kwB n l m)) ∧ w' = w := by
  by_cases h1 : l ≤ n
  · by_cases h2 : n ≤ m
    · rw [kwB_t ⟨h1, h2⟩]
      go_enter Try.func55, Try.ntmps55
      go_wp2
      go_ret
      exact ⟨rfl, rfl⟩
    · rw [kwB_f (fun h => h2 h.2)]
      go_enter Try.func55, Try.ntmps55
      go_wp2
      go_ret
      exact ⟨rfl, rfl⟩
  · rw [kwB_f (fun h => h1 h.1)]
    go_enter Try.func55, Try.ntmps55
    go_wp2
    go_ret
    exact ⟨rfl, rfl⟩
theorem nameMay_any (s : ByteArray) (w : World) : Calls Try.prog 90 #[.string s] w fun e w' => e = .returned (.bool (kwB s.size 1 32)) ∧ w' = w := by
  have h := fun wz => dwithin_any s.size 1 32 wz
  go_enter Try.func90, Try.ntmps90
  go_wp2_with (go_at_call 84; refine (h _).mono ?_; rintro e w1 ⟨rfl, rfl⟩)
  go_ret
  exact ⟨rfl, rfl⟩
/-- why neither a giver nor a taker may have these -/
def dsB (id pa li : Int) : Bool := kwB id 0 65535 && kwB pa 1 1000 && kwB li 1 100
def dsE (id pa li : Int) : Nat := if dsB id pa li = true then 0 else 2
theorem wrongSide_any (id pa li : Int) (w : World) : Calls Try.prog 58 #[.int .i64 id, .int .i64 pa, .int .i64 li] w fun e w' => e = .returned (.int .i64 (dsE id pa li : Nat)) ∧ w' = w := by
  have h0 := fun wz => dwithin_any id 0 65535 wz
  have h1 := fun wz => dwithin_any pa 1 1000 wz
  have h2 := fun wz => dwithin_any li 1 100 wz
  unfold dsE dsB
  generalize kwB id 0 65535 = b0 at h0 ⊢
  generalize kwB pa 1 1000 = b1 at h1 ⊢
  generalize kwB li 1 100 = b2 at h2 ⊢
  have t0 : True := trivial
  cases b0 <;> cases b1 <;> cases b2 <;>
  · go_enter Try.func58, Try.ntmps58
    go_wp2_with (first
      | (go_at_call 84; have _t := t0; clear t0; refine (h0 _).mono ?_; rintro e w1 ⟨rfl, rfl⟩; have t1 : True := trivial)
      | (go_at_call 84; have _t := t1; clear t1; refine (h1 _).mono ?_; rintro e w1 ⟨rfl, rfl⟩; have t2 : True := trivial)
      | (go_at_call 84; have _t := t2; clear t2; refine (h2 _).mono ?_; rintro e w1 ⟨rfl, rfl⟩))
    go_ret
    exact ⟨rfl, rfl⟩
end

section
/-- a giver's cells -/
def gvA (id : Int) (nm : ByteArray) (fl : Value) (mo bu st : Int) (fi : Bool) (at' : Int) (ag : Value) (ti pa tr li : Int) : Array Value := #[.int .i64 id, .string nm, fl, .int .i64 mo, .int .i64 bu, .int .i64 st, .bool fi, .int .i64 at', ag, .int .i64 ti, .int .i64 pa, .int .i64 tr, .int .i64 li]
def ofB (id pa li mo bu : Int) : Bool := dsB id pa li && kwB mo 1 1024 && kwB bu 1 50
def ofC (nm : Nat) (n : Nat) : Bool := kwB nm 1 32 && decide (n ≤ 65536)
def ofE (id pa li mo bu : Int) (nm n : Nat) : Nat := if ofB id pa li mo bu = true then (if ofC nm n = true then 0 else 1) else 2
theorem Try.info_gv : (Try.prog.info? 44).map (fun i => i.size) = some 13 := by kernel_rfl
set_option maxHeartbeats 4000000 in
theorem wrongOffer_any (id : Int) (nm : ByteArray) (a : Option Addr) (n cap : Nat) (mo bu st : Int) (fi : Bool) (at' : Int) (ag : Value) (ti pa tr li : Int) (w : World) :
    Calls Try.prog 56 #[.agg (gvA id nm (.slice a n cap) mo bu st fi at' ag ti pa tr li)] w fun e w' => e = .returned (.int .i64 (ofE id pa li mo bu nm.size n : Nat)) ∧ w.grownBy w' none := by
  have h0 := fun wz => wrongSide_any id pa li wz
  have h1 := fun wz => dwithin_any mo 1 1024 wz
  have h2 := fun wz => dwithin_any bu 1 50 wz
  have h3 := fun wz => nameMay_any nm wz
  have gA := World.grownBy_alloc w (.cells #[.int .i64 id, .string nm, .slice a n cap, .int .i64 mo, .int .i64 bu, .int .i64 st, .bool fi, .int .i64 at', ag, .int .i64 ti, .int .i64 pa, .int .i64 tr, .int .i64 li] 44) none
  unfold ofE ofB ofC
  unfold dsE at h0
  unfold gvA
  generalize dsB id pa li = b0 at h0 ⊢
  generalize kwB mo 1 1024 = b1 at h1 ⊢
  generalize kwB bu 1 50 = b2 at h2 ⊢
  generalize kwB nm.size 1 32 = b3 at h3 ⊢
  have t0 : True := trivial
  cases b0
  case false =>
    go_enter Try.func56, Try.ntmps56
    go_wp2_with (first
      | (go_at_call 58; refine (h0 _).mono ?_; rintro e w1 ⟨rfl, rfl⟩)
      | (go_at_call 84; have _t := t0; clear t0; refine (h1 _).mono ?_; rintro e w1 ⟨rfl, rfl⟩; have t1 : True := trivial)
      | (go_at_call 84; have _t := t1; clear t1; refine (h2 _).mono ?_; rintro e w1 ⟨rfl, rfl⟩)
      | (go_at_call 90; refine (h3 _).mono ?_; rintro e w1 ⟨rfl, rfl⟩))
    go_ret
    exact ⟨rfl, gA⟩
  cases b1
  case false =>
    go_enter Try.func56, Try.ntmps56
    go_wp2_with (first
      | (go_at_call 58; refine (h0 _).mono ?_; rintro e w1 ⟨rfl, rfl⟩)
      | (go_at_call 84; have _t := t0; clear t0; refine (h1 _).mono ?_; rintro e w1 ⟨rfl, rfl⟩; have t1 : True := trivial)
      | (go_at_call 84; have _t := t1; clear t1; refine (h2 _).mono ?_; rintro e w1 ⟨rfl, rfl⟩)
      | (go_at_call 90; refine (h3 _).mono ?_; rintro e w1 ⟨rfl, rfl⟩))
    go_ret
    exact ⟨rfl, gA⟩
  cases b2
  case false =>
    go_enter Try.func56, Try.ntmps56
    go_wp2_with (first
      | (go_at_call 58; refine (h0 _).mono ?_; rintro e w1 ⟨rfl, rfl⟩)
      | (go_at_call 84; have _t := t0; clear t0; refine (h1 _).mono ?_; rintro e w1 ⟨rfl, rfl⟩; have t1 : True := trivial)
      | (go_at_call 84; have _t := t1; clear t1; refine (h2 _).mono ?_; rintro e w1 ⟨rfl, rfl⟩)
      | (go_at_call 90; refine (h3 _).mono ?_; rintro e w1 ⟨rfl, rfl⟩))
    go_ret
    exact ⟨rfl, gA⟩
  cases b3
  case false =>
    go_enter Try.func56, Try.ntmps56
    go_wp2_with (first
      | (go_at_call 58; refine (h0 _).mono ?_; rintro e w1 ⟨rfl, rfl⟩)
      | (go_at_call 84; have _t := t0; clear t0; refine (h1 _).mono ?_; rintro e w1 ⟨rfl, rfl⟩; have t1 : True := trivial)
      | (go_at_call 84; have _t := t1; clear t1; refine (h2 _).mono ?_; rintro e w1 ⟨rfl, rfl⟩)
      | (go_at_call 90; refine (h3 _).mono ?_; rintro e w1 ⟨rfl, rfl⟩))
    go_ret
    exact ⟨rfl, gA⟩
  by_cases hf : n ≤ 65536
  · rw [decide_eq_true hf]
    have hf' : ¬ (65536 < (n : Int)) := by omega
    go_enter Try.func56, Try.ntmps56
    go_wp2_with (first
      | (go_at_call 58; refine (h0 _).mono ?_; rintro e w1 ⟨rfl, rfl⟩)
      | (go_at_call 84; have _t := t0; clear t0; refine (h1 _).mono ?_; rintro e w1 ⟨rfl, rfl⟩; have t1 : True := trivial)
      | (go_at_call 84; have _t := t1; clear t1; refine (h2 _).mono ?_; rintro e w1 ⟨rfl, rfl⟩)
      | (go_at_call 90; refine (h3 _).mono ?_; rintro e w1 ⟨rfl, rfl⟩))
    go_ret
    exact ⟨rfl, gA⟩
  · rw [decide_eq_false hf]
    have hf' : 65536 < (n : Int) := by omega
    go_enter Try.func56, Try.ntmps56
    go_wp2_with (first
      | (go_at_call 58; refine (h0 _).mono ?_; rintro e w1 ⟨rfl, rfl⟩)
      | (go_at_call 84; have _t := t0; clear t0; refine (h1 _).mono ?_; rintro e w1 ⟨rfl, rfl⟩; have t1 : True := trivial)
      | (go_at_call 84; have _t := t1; clear t1; refine (h2 _).mono ?_; rintro e w1 ⟨rfl, rfl⟩)
      | (go_at_call 90; refine (h3 _).mono ?_; rintro e w1 ⟨rfl, rfl⟩))
    go_ret
    exact ⟨rfl, gA⟩
end

section
theorem Ans.nil (w : World) (lo : Nat) : Ans w lo none 0 0 [] := ⟨World.ownsRow_nil _ _ _ _, (fun x h => by cases h), fun g h => by cases h⟩
theorem dclone_any (a : Option Addr) (n cap : Nat) (D : List Nat) (w : World) (hp : Rd w a n cap D) (hn : n ≤ 140737488355328) :
    Calls Try.prog 57 #[.slice a n cap] w fun e w' => ∃ a' c', e = .returned (.slice a' n c') ∧ Ans w' w.heap.size a' n c' D ∧ w.grownBy w' none := by
  cases a with
  | none =>
    have hc0 : cap = 0 := hp.nil rfl
    have hn0 : n = 0 := by have := hp.le; omega
    subst hc0 hn0
    have e : D = [] := List.eq_nil_of_length_eq_zero hp.len
    subst e
    have heq := fun w => Lib.run_eql_slice_nil (P := Try.prog) w 23 5 none 0 0 0 0 Try.underlying23
    go_enter Try.func57, Try.ntmps57
    go_wp2
    go_ret
    exact ⟨none, 0, rfl, Ans.nil _ _, World.grownBy.refl _ _⟩
  | some ad =>
    have gA := World.grownBy_alloc w (.cells #[] 5) none
    have hA := heap_alloc_new w (.cells #[] 5)
    have hown : Ans (w.alloc (.cells #[] 5)) w.heap.size (some ⟨w.heap.size, 0, none⟩) 0 0 [] := ⟨⟨rfl, .inr ⟨w.heap.size, 0, #[], rfl, Nat.zero_le _, hA, Nat.le_refl _, Nat.zero_le _, rfl, rfl⟩⟩, (fun x h => by cases h), fun g h => by have e : w.heap.size = g := Option.some.inj h; omega⟩
    have hpA := hp.keep gA
    have heq := fun w => Lib.run_eql_slice_nil (P := Try.prog) w 23 5 (some ad) n cap 0 0 Try.underlying23
    go_enter Try.func57, Try.ntmps57
    go_wp2_with (at_builtin; refine wpList_joinZ rfl _ _ rfl _ 0 0 w.heap.size [] rfl hown (by simp) _ n cap D rfl hpA (by omega) ?_; intro a' c' w2 hA2 hg2)
    go_ret
    rw [Nat.zero_add] at *
    exact ⟨a', c', rfl, hA2, grown_far gA hg2 (fun x hx => by have e : w.heap.size = x := Option.some.inj hx; omega)⟩
def ofX (E : Nat) (z : Int) : Int := if E = 0 then z else 0
def ofS (E : Nat) (s : ByteArray) : ByteArray := if E = 0 then s else ⟨#[]⟩
def ofL (E : Nat) (L : List Nat) : List Nat := if E = 0 then L else []
/-- what Offer answers -/
def OfA (id : Int) (nm : ByteArray) (mo bu pa li : Int) (E : Nat) (L : List Nat) (w w' : World) (e : Ending) : Prop :=
  ∃ a' c', e = .returned (.tuple #[.agg (gvA (ofX E id) (ofS E nm) (.slice a' (ofL E L).length c') (ofX E mo) (ofX E bu) 0 (decide (E = 0)) 0 (.slice none 0 0) 0 (ofX E pa) 0 (ofX E li)), .int .i64 (E : Nat)]) ∧ Ans w' w.heap.size a' (ofL E L).length c' (ofL E L) ∧ w.grownBy w' none
theorem ofA_bad (id : Int) (nm : ByteArray) (mo bu pa li : Int) (E : Nat) (L : List Nat) (w w' : World) (hE : E ≠ 0) (hg : w.grownBy w' none) : OfA id nm mo bu pa li E L w w' (.returned (.tuple #[.agg #[.int .i64 0, .string ⟨#[]⟩, .slice none 0 0, .int .i64 0, .int .i64 0, .int .i64 0, .bool false, .int .i64 0, .slice none 0 0, .int .i64 0, .int .i64 0, .int .i64 0, .int .i64 0], .int .i64 (E : Nat)])) := by
  refine ⟨none, 0, ?_, ?_, hg⟩
  · unfold ofX ofS ofL gvA; simp [hE]
  · unfold ofL; rw [if_neg hE]; exact Ans.nil _ _
theorem ofA_ok (id : Int) (nm : ByteArray) (mo bu pa li : Int) (n : Nat) (L : List Nat) (w w' : World) (a' : Option Addr) (c' : Nat) (hA : Ans w' w.heap.size a' n c' L) (hg : w.grownBy w' none) : OfA id nm mo bu pa li 0 L w w' (.returned (.tuple #[.agg #[.int .i64 id, .string nm, .slice a' n c', .int .i64 mo, .int .i64 bu, .int .i64 0, .bool true, .int .i64 0, .slice none 0 0, .int .i64 0, .int .i64 pa, .int .i64 0, .int .i64 li], .int .i64 0])) := by
  have hl := hA.len
  subst hl
  exact ⟨a', c', rfl, hA, hg⟩
end

section
theorem Try.info_n : (Try.prog.info? 3).map (fun i => (i.zero, i.size, i.bytes)) = some (some (.int .i64 0), 1, 8) := by kernel_rfl
theorem plain_i64 : Try.prog.plainKey 3 = true := by kernel_rfl
theorem cells_i64 : Try.prog.cellsOf 3 = 1 := by kernel_rfl
theorem eq_i64 (d : Nat) (x y : Int) (w : World) : (Op.equalIn (d + 1) 3 (.int .i64 x) (.int .i64 y)).run Try.prog w = .ok (x == y) w := run_equalIn_int w d 3 .i64 .i64 x y Try.underlying3
theorem items_i64 (d : Nat) (xs ys : List Int) (is : List Nat) (w : World) (hx : ∀ i ∈ is, i < xs.length) (hy : ∀ i ∈ is, i < ys.length) :
    (Op.eqItems (d + 1) 3 1 (xs.map (Value.int .i64 ·)).toArray (ys.map (Value.int .i64 ·)).toArray is).run Try.prog w = .ok (is.all fun i => xs.getD i 0 == ys.getD i 0) w := by
  induction is with
  | nil => simp [Op.eqItems]
  | cons i is ih =>
    have h1 := hx i (by simp)
    have h2 := hy i (by simp)
    have p1 := run_part_plain w plain_i64 (xs := (xs.map (Value.int .i64 ·)).toArray) (off := i * 1) (v := .int .i64 (xs.getD i 0)) (by simp [h1])
    have p2 := run_part_plain w plain_i64 (xs := (ys.map (Value.int .i64 ·)).toArray) (off := i * 1) (v := .int .i64 (ys.getD i 0)) (by simp [h2])
    simp only [Op.eqItems, Sem.run_bind, p1, p2, Result.andThen_ok, eq_i64]
    rw [List.all_cons]
    cases hb : (xs.getD i 0 == ys.getD i 0) with
    | false => simp
    | true => simpa using ih (fun j hj => hx j (by simp [hj])) (fun j hj => hy j (by simp [hj]))
/-- arrays of numbers compared -/
theorem arr_i64 {t : TypeId} {n : Nat} (hu : Try.prog.underlying t = some (.array n 3)) (xs ys : List Int) (hx : xs.length = n) (hy : ys.length = n) (w : World) :
    (Op.equalIn 10000 t (.agg (xs.map (Value.int .i64 ·)).toArray) (.agg (ys.map (Value.int .i64 ·)).toArray)).run Try.prog w = .ok ((List.range n).all fun i => xs.getD i 0 == ys.getD i 0) w := by
  obtain ⟨i0, hi, _⟩ := info_parts Try.info_n
  rw [run_equalIn_array w 9999 _ _ hu hi, cells_i64]
  exact items_i64 9998 xs ys _ w (fun i h => by rw [hx]; exact List.mem_range.1 h) (fun i h => by rw [hy]; exact List.mem_range.1 h)
/-- pairs compared -/
theorem arr2_i64 (x x' y y' : Int) (w : World) : (Op.equalIn 10000 82 (.agg #[.int .i64 x, .int .i64 x']) (.agg #[.int .i64 y, .int .i64 y'])).run Try.prog w = .ok (x == y && x' == y') w :=
  (arr_i64 Try.underlying82 [x, x'] [y, y'] rfl rfl w).trans (by congr 1; simp [List.range_succ])
/-- a slice of pairs of numbers as it is read -/
structure RdG (w : World) (a : Option Addr) (n cap : Nat) (F : Nat → Int × Int) : Prop where
  le : n ≤ cap
  max : cap ≤ maxLen
  nil : a = none → cap = 0
  at' : 0 < n → ∃ b off, a = some ⟨b, off, none⟩ ∧ b < w.heap.size ∧ ∀ i, i < n → w.cell? ⟨b, off + i * 2, none⟩ = some (.int .i64 (F i).1) ∧ w.cell? ⟨b, off + i * 2 + 1, none⟩ = some (.int .i64 (F i).2)
theorem RdG.grown {w w' : World} {a : Option Addr} {n cap : Nat} {F : Nat → Int × Int} {r : Option Nat} (h : RdG w a n cap F) (hg : w.grownBy w' r) (hne : ∀ b off, a = some ⟨b, off, none⟩ → some b ≠ r) : RdG w' a n cap F :=
  ⟨h.le, h.max, h.nil, fun h0 => by
    obtain ⟨b, off, e, hb, hc⟩ := h.at' h0
    refine ⟨b, off, e, Nat.lt_of_lt_of_le hb hg.size, fun i hi => ?_⟩
    have := hc i hi
    unfold World.cell? at this ⊢
    rw [hg.block b hb (hne b off e)]
    exact this⟩
theorem RdG.keep {w w' : World} {a : Option Addr} {n cap : Nat} {F : Nat → Int × Int} (h : RdG w a n cap F) (hg : w.grownBy w' none) : RdG w' a n cap F := h.grown hg (fun _ _ _ => by simp)
theorem RdG.nil0 (w : World) (F : Nat → Int × Int) : RdG w none 0 0 F := ⟨Nat.le_refl _, Nat.zero_le _, fun _ => rfl, fun h => absurd h (by decide)⟩
set_option maxHeartbeats 4000000 in
theorem sameGaps_any (a b : Option Addr) (n cap cap' : Nat) (F F' : Nat → Int × Int) (w : World) (h : RdG w a n cap F) (k : RdG w b n cap' F') (he : ∀ i, i < n → F i = F' i) :
    Calls Try.prog 52 #[.slice a n cap, .slice b n cap'] w fun e w' => e = .returned (.bool true) ∧ w.grownBy w' none := by
  have hm := h.max
  have hle := h.le
  have hml : maxLen ≤ 9223372036854775807 := by decide
  go_enter Try.func52, Try.ntmps52
  go_wp2
  go_loopw [5] (fun i wr => ∃ k : Nat, k ≤ n ∧ i = .int .i64 k ∧ w.grownBy wr none) (fun i _ => n - (intOf i).toNat)
  case atStart => exact ⟨0, by omega, rfl, World.grownBy.refl _ _⟩
  case round =>
    obtain ⟨j, hj, rfl, hg⟩ := hrel
    by_cases hlt : j < n
    · have hlt' : (j : Int) < (n : Int) := by omega
      obtain ⟨b1, o1, rfl, _, c1⟩ := (h.keep hg).at' (by omega)
      obtain ⟨b2, o2, rfl, _, c2⟩ := (k.keep hg).at' (by omega)
      obtain ⟨x1, x2⟩ := c1 j hlt
      obtain ⟨y1, y2⟩ := c2 j hlt
      rw [← he j hlt] at y1 y2
      clear c1 c2 h k he
      have hj0 : (0 : Int) ≤ (j : Int) := by omega
      have ha := fun wz => arr2_i64 (F j).1 (F j).2 (F j).1 (F j).2 wz
      simp only [beq_self_eq_true, Bool.and_self] at ha
      go_wp2
      go_region_law
      all_goals (try go_simp)
      all_goals go_wp2
      all_goals exact ⟨⟨j + 1, by omega, rfl, grown_trans hg (grown_drew _ _)⟩, by simp only [intOf]; omega⟩
    · have hlt' : ¬ (j : Int) < (n : Int) := by omega
      go_wp2
      go_ret
      exact ⟨rfl, hg⟩
end

section
/-- a gap within so many bytes, or both are nought -/
def spB (x y n : Int) : Bool := decide (0 ≤ x ∧ x < y ∧ y ≤ n)
def gpB (x y n : Int) : Bool := decide ((x = 0 ∧ y = 0) ∨ (0 ≤ x ∧ x < y ∧ y ≤ n))
def alG (F : Nat → Int × Int) (s : Int) : Nat → Bool
  | 0 => true
  | k + 1 => alG F s k && gpB (F k).1 (F k).2 s
theorem alG_no (F : Nat → Int × Int) (s : Int) (k : Nat) (h : gpB (F k).1 (F k).2 s = false) (n : Nat) (hk : k < n) : alG F s n = false := by
  induction n with
  | zero => omega
  | succ n ih =>
    show (alG F s n && gpB (F n).1 (F n).2 s) = false
    by_cases e : k = n
    · subst e; rw [h, Bool.and_false]
    · rw [ih (by omega), Bool.false_and]
theorem ret_bool {x y : Bool} (h : x = y) : Ending.returned (.bool x) = Ending.returned (.bool y) := by rw [h]
theorem spanMay_any (x y n : Int) (w : World) : Calls Try.prog 112 #[.agg #[.int .i64 x, .int .i64 y], .int .i64 n] w fun e w' => e = .returned (.bool (spB x y n)) ∧ w.grownBy w' none := by
  have g0 := World.grownBy_alloc w (.cells #[.int .i64 x, .int .i64 y] 82) none
  go_enter Try.func112, Try.ntmps112
  go_wp2
  all_goals
    go_ret
    refine ⟨ret_bool ?_, g0⟩
    rw [Bool.eq_iff_iff]
    simp [spB]
    omega
theorem gapMay_any (x y n : Int) (w : World) : Calls Try.prog 83 #[.agg #[.int .i64 x, .int .i64 y], .int .i64 n] w fun e w' => e = .returned (.bool (gpB x y n)) ∧ w.grownBy w' none := by
  have g0 := World.grownBy_alloc w (.cells #[.int .i64 x, .int .i64 y] 82) none
  go_enter Try.func83, Try.ntmps83
  go_wp2
  all_goals
    go_ret
    refine ⟨ret_bool ?_, by first | exact g0 | (subst_vars; exact g0)⟩
    rw [Bool.eq_iff_iff]
    simp [gpB]
    try omega
theorem gpB_or (x y n : Int) : gpB x y n = (spB x y n || (x == 0 && y == 0)) := by
  rw [Bool.eq_iff_iff]; simp [gpB, spB]; omega
theorem Try.info_sp : (Try.prog.info? 82).map (fun i => i.size) = some 2 := by kernel_rfl
theorem BxS.cell2 {w : World} {g : Nat} {t : TypeId} {a0 a1 : Value} (k : BxS w g t #[a0, a1]) : w.cell? ⟨g, 0, none⟩ = some a0 ∧ w.cell? ⟨g, 1, none⟩ = some a1 := by
  simp [World.cell?, show w.heap[g]? = _ from k]
set_option maxHeartbeats 4000000 in
theorem gapsMay_any (a : Option Addr) (n cap : Nat) (s : Int) (F : Nat → Int × Int) (w : World) (h : RdG w a n cap F) :
    Calls Try.prog 92 #[.slice a n cap, .int .i64 s] w fun e w' => e = .returned (.bool (alG F s n)) ∧ w.grownBy w' none := by
  have hm := h.max
  have hle := h.le
  have hml : maxLen ≤ 9223372036854775807 := by decide
  go_enter Try.func92, Try.ntmps92
  go_wp2
  go_loopw [9] (fun i wr => ∃ k : Nat, k ≤ n ∧ i = .int .i64 k ∧ w.grownBy wr none ∧ alG F s k = true) (fun i _ => n - (intOf i).toNat)
  case atStart => exact ⟨0, by omega, rfl, World.grownBy.refl _ _, rfl⟩
  case round =>
    obtain ⟨j, hj, rfl, hg, hal⟩ := hrel
    by_cases hlt : j < n
    · have hlt' : (j : Int) < (n : Int) := by omega
      obtain ⟨b1, o1, rfl, _, c1⟩ := (h.keep hg).at' (by omega)
      obtain ⟨x1, x2⟩ := c1 j hlt
      have HS : Hid (∀ k, alG F s (k + 1) = (alG F s k && gpB (F k).1 (F k).2 s)) := fun k => rfl
      have HN : Hid (∀ k, gpB (F k).1 (F k).2 s = false → k < n → alG F s n = false) := fun k h hk => alG_no F s k h n hk
      have HO : Hid (gpB (F j).1 (F j).2 s = (spB (F j).1 (F j).2 s || ((F j).1 == 0 && (F j).2 == 0))) := gpB_or _ _ _
      clear c1 h
      have hj0 : (0 : Int) ≤ (j : Int) := by omega
      have ha := fun wz => arr2_i64 (F j).1 (F j).2 0 0 wz
      have hs := fun wz => spanMay_any (F j).1 (F j).2 s wz
      have HE : Hid (((F j).1 == 0 && (F j).2 == 0) = ((F j).1 == 0 && (F j).2 == 0)) := rfl
      generalize hX : spB (F j).1 (F j).2 s = X at hs HO
      generalize hY : ((F j).1 == 0 && (F j).2 == 0) = Y at ha HO
      have HB := fun wz => BxS.new wz 82 #[.int .i64 0, .int .i64 0]
      have i2 := Try.info_sp
      clear hX hY HE
      have t1 : True := trivial
      cases X
      · cases Y
        · go_wp2_with (first
            | (have _t := t1; refine wpList_stX _ rfl _ (.tmp 6) (.tmp 12) rfl wr.heap.size _ _ rfl rfl (HB _) i2 rfl (by simp [Value.oneCell']) ?_; clear t1; intro w2 b2 g2; obtain ⟨z1, z2⟩ := b2.cell2)
            | (go_at_call 112; refine (hs _).mono ?_; rintro e w3 ⟨rfl, g3⟩; clear z1 z2; obtain ⟨z1, z2⟩ := (b2.keep g3 (by simp)).cell2))
          have G2 : w.grownBy w2 none := grown_far (grown_trans hg (World.grownBy_alloc wr _ none)) g2 (fun q e => by have e : wr.heap.size = q := Option.some.inj e; have := hg.size; omega)
          go_ret
          exact ⟨ret_bool (by rw [HN.out j (by rw [HO.out]; rfl) hlt]), grown_trans G2 g3⟩
        · go_wp2_with (first
            | (have _t := t1; refine wpList_stX _ rfl _ (.tmp 6) (.tmp 12) rfl wr.heap.size _ _ rfl rfl (HB _) i2 rfl (by simp [Value.oneCell']) ?_; clear t1; intro w2 b2 g2; obtain ⟨z1, z2⟩ := b2.cell2)
            | (go_at_call 112; refine (hs _).mono ?_; rintro e w3 ⟨rfl, g3⟩; clear z1 z2; obtain ⟨z1, z2⟩ := (b2.keep g3 (by simp)).cell2))
          have G2 : w.grownBy w2 none := grown_far (grown_trans hg (World.grownBy_alloc wr _ none)) g2 (fun q e => by have e : wr.heap.size = q := Option.some.inj e; have := hg.size; omega)
          exact ⟨⟨j + 1, by omega, rfl, grown_trans G2 g3, by rw [HS.out, hal, HO.out]; rfl⟩, by simp only [intOf]; omega⟩
      · go_wp2_with (first
          | (have _t := t1; refine wpList_stX _ rfl _ (.tmp 6) (.tmp 12) rfl wr.heap.size _ _ rfl rfl (HB _) i2 rfl (by simp [Value.oneCell']) ?_; clear t1; intro w2 b2 g2; obtain ⟨z1, z2⟩ := b2.cell2)
          | (go_at_call 112; refine (hs _).mono ?_; rintro e w3 ⟨rfl, g3⟩; clear z1 z2; obtain ⟨z1, z2⟩ := (b2.keep g3 (by simp)).cell2))
        have G2 : w.grownBy w2 none := grown_far (grown_trans hg (World.grownBy_alloc wr _ none)) g2 (fun q e => by have e : wr.heap.size = q := Option.some.inj e; have := hg.size; omega)
        exact ⟨⟨j + 1, by omega, rfl, grown_trans G2 g3, by rw [HS.out, hal, HO.out]; rfl⟩, by simp only [intOf]; omega⟩
    · have hlt' : ¬ (j : Int) < (n : Int) := by omega
      have e : j = n := by omega
      subst e
      go_wp2
      go_ret
      exact ⟨ret_bool (by first | rfl | rw [hal]), hg⟩

/-- a note's cells -/
def ntA (kd id : Int) (nm : ByteArray) (si su at' : Int) (da ga : Value) (o co : Int) : Array Value := #[.int .i64 kd, .int .i64 id, .string nm, .int .i64 si, .int .i64 su, .int .i64 at', da, ga, .int .i64 o, .int .i64 co]
theorem BxS.cell10 {w : World} {g : Nat} {t : TypeId} {a0 a1 a2 a3 a4 a5 a6 a7 a8 a9 : Value} (k : BxS w g t #[a0, a1, a2, a3, a4, a5, a6, a7, a8, a9]) : w.cell? ⟨g, 0, none⟩ = some a0 ∧ w.cell? ⟨g, 1, none⟩ = some a1 ∧ w.cell? ⟨g, 2, none⟩ = some a2 ∧ w.cell? ⟨g, 3, none⟩ = some a3 ∧ w.cell? ⟨g, 4, none⟩ = some a4 ∧ w.cell? ⟨g, 5, none⟩ = some a5 ∧ w.cell? ⟨g, 6, none⟩ = some a6 ∧ w.cell? ⟨g, 7, none⟩ = some a7 ∧ w.cell? ⟨g, 8, none⟩ = some a8 ∧ w.cell? ⟨g, 9, none⟩ = some a9 := by
  simp [World.cell?, show w.heap[g]? = _ from k]
end

section
/-! slices of numbers as they are read -/
def nthI (S : List Int) (i : Nat) : Int := S.getD i 0
structure RdI (w : World) (a : Option Addr) (n cap : Nat) (S : List Int) : Prop where
  len : S.length = n
  le : n ≤ cap
  max : cap ≤ maxLen
  nil : a = none → cap = 0
  at' : 0 < n → ∃ b off, a = some ⟨b, off, none⟩ ∧ b < w.heap.size ∧ ∀ i, i < n → w.cell? ⟨b, off + i, none⟩ = some (.int .i64 (nthI S i))
theorem RdI.grown {w w' : World} {a : Option Addr} {n cap : Nat} {S : List Int} {r : Option Nat} (h : RdI w a n cap S) (hg : w.grownBy w' r) (hne : ∀ b off, a = some ⟨b, off, none⟩ → some b ≠ r) : RdI w' a n cap S := by
  refine ⟨h.len, h.le, h.max, h.nil, fun h0 => ?_⟩
  obtain ⟨b, off, rfl, hb, hc⟩ := h.at' h0
  refine ⟨b, off, rfl, Nat.lt_of_lt_of_le hb hg.size, fun i hi => ?_⟩
  exact (World.cell?_of_block (w := w) (hg.block b hb (hne b off rfl))).trans (hc i hi)
theorem RdI.keep {w w' : World} {a : Option Addr} {n cap : Nat} {S : List Int} (h : RdI w a n cap S) (hg : w.grownBy w' none) : RdI w' a n cap S := h.grown hg (fun _ _ _ => by simp)
/-! rows of numbers that grow -/
def zys (L : List Int) : List Value := L.map fun n => Value.int .i64 n
theorem zys_length (L : List Int) : (zys L).length = L.length := by simp [zys]
theorem zys_at (L : List Int) (i : Nat) (hi : i < L.length) : (zys L)[i]? = some (.int .i64 (nthI L i)) := by
  unfold zys nthI
  rw [List.getElem?_map, List.getElem?_eq_getElem hi, List.getD_eq_getElem?_getD, List.getElem?_eq_getElem hi]; rfl
/-- an answer of numbers, in memory from block lo on -/
structure AnsZ (w : World) (lo : Nat) (a : Option Addr) (n cap : Nat) (L : List Int) : Prop where
  own : w.ownsRow 0 3 1 (.slice a n cap) n (zys L)
  new : ∀ g, (Value.slice a n cap).ownBlock = some g → lo ≤ g
theorem AnsZ.len {w : World} {lo : Nat} {a : Option Addr} {n cap : Nat} {L : List Int} (h : AnsZ w lo a n cap L) : L.length = n := by
  have := h.own.1; rw [zys_length] at this; omega
theorem AnsZ.cases {w : World} {lo : Nat} {a : Option Addr} {n cap : Nat} {L : List Int} (h : AnsZ w lo a n cap L) :
    (a = none ∧ n = 0 ∧ cap = 0) ∨ ∃ g, a = some ⟨g, 0, none⟩ ∧ lo ≤ g ∧ g < w.heap.size := by
  rcases h.own.2 with ⟨h1, h2⟩ | ⟨g, cap', cur, h1, _, h3, _⟩
  · simp only [Value.slice.injEq] at h1; exact .inl h1
  · simp only [Value.slice.injEq] at h1
    obtain ⟨rfl, _, _⟩ := h1
    exact .inr ⟨g, rfl, h.new g rfl, (Array.getElem?_eq_some_iff.1 h3).1⟩
theorem AnsZ.max {w : World} {lo : Nat} {a : Option Addr} {n cap : Nat} {L : List Int} (h : AnsZ w lo a n cap L) : n ≤ cap ∧ cap ≤ maxLen := by
  rcases h.own.2 with ⟨h1, h2⟩ | ⟨g, cap', cur, h1, _, h3, h4, h5, _⟩
  · simp only [Value.slice.injEq] at h1; obtain ⟨_, h6, h7⟩ := h1; subst h6; subst h7; exact ⟨Nat.le_refl _, Nat.zero_le _⟩
  · simp only [Value.slice.injEq] at h1; obtain ⟨_, _, h7⟩ := h1; subst h7; exact ⟨h4, h5⟩
theorem AnsZ.rd {w : World} {lo : Nat} {a : Option Addr} {n cap : Nat} {L : List Int} (h : AnsZ w lo a n cap L) : RdI w a n cap L := by
  refine ⟨h.len, h.max.1, h.max.2, fun h0 => ?_, fun h0 => ?_⟩
  · rcases h.cases with ⟨_, _, h3⟩ | ⟨g, h1, _⟩
    · exact h3
    · rw [h0] at h1; cases h1
  · rcases h.cases with ⟨_, h2, _⟩ | ⟨g, rfl, _, hl⟩
    · omega
    · refine ⟨g, 0, rfl, hl, fun i hi => ?_⟩
      have hL := h.len
      rw [Nat.zero_add, h.own.cellAt i (by omega)]
      exact zys_at L i (by omega)
theorem AnsZ.kept {w w' : World} {lo : Nat} {a : Option Addr} {n cap : Nat} {L : List Int} {r : Option Nat} (h : AnsZ w lo a n cap L) (hg : w.grownBy w' r) (hne : (Value.slice a n cap).ownBlock = none ∨ (Value.slice a n cap).ownBlock ≠ r) : AnsZ w' lo a n cap L :=
  ⟨h.own.kept hg hne, h.new⟩
theorem AnsZ.keep {w w' : World} {lo : Nat} {a : Option Addr} {n cap : Nat} {L : List Int} (h : AnsZ w lo a n cap L) (hg : w.grownBy w' none) : AnsZ w' lo a n cap L :=
  h.kept hg (by cases (Value.slice a n cap).ownBlock <;> simp)
theorem AnsZ.lt {w : World} {lo : Nat} {a : Option Addr} {n cap : Nat} {L : List Int} (h : AnsZ w lo a n cap L) : ∀ g, (Value.slice a n cap).ownBlock = some g → g < w.heap.size := by
  intro g hg
  rcases h.cases with ⟨rfl, _, _⟩ | ⟨g', rfl, _, hl⟩
  · simp [Value.ownBlock] at hg
  · have : g' = g := by simpa [Value.ownBlock] using hg
    omega
end

section
/-- 'append(v, x...)', x not empty, in a region that draws -/
theorem step_joinP {w : World} {ops : Array Oper} {o : Oper} {a : Act} {K : Act → World → Prop} {Q : Exit → Act → World → Prop} {E : Prop} (hg : o.guard = none) (s x : Operand)
    (hop : o.op = Op.call { callee := .builtin .append, args := #[s, x], argTypes := #[23, 23] }) (ao : Option Addr) (m co lo : Nat) (D : List Nat) (hs : a.eval s = .slice ao m co)
    (hA : Ans w lo ao m co D) (hlo : lo ≤ w.heap.size) (ad : Addr) (nx cx : Nat) (X : List Nat) (hx : a.eval x = .slice (some ad) nx cx) (hR : Rd w (some ad) nx cx X) (h0 : 0 < nx) (hb : m + nx ≤ 140737488355328)
    (hK : ∀ a' c' w', Ans w' lo a' (m + nx) c' (D ++ X) → w.grownBy w' (Value.slice ao m co).ownBlock → K (a.put o.dst (.slice a' (m + nx) c')) w') :
    if Region.wanted o (yielded ops a.tmps) = true then Oper.wp Try.prog o a w K Q else E := by
  have hw : Region.wanted o (yielded ops a.tmps) = true := by simp [Region.wanted, hg]
  rw [if_pos hw]
  obtain ⟨i0, hi, hz0, hz1, hz2⟩ := info_parts Try.info_u8
  obtain ⟨b, off, e, _, hc⟩ := hR.at' h0
  cases e
  obtain ⟨v', w', hr, hown, hgr, _⟩ := run_append_own (P := Try.prog) w lo 23 o.type 5 i0 (.int .u8 0) 1 1 Try.underlying23 hi hz0 hz1 hz2 rfl (by decide) (.slice ao m co) m (bys D) hA.up ⟨b, off, none⟩ nx cx (bys X) (by rw [bys_length, hR.len]; omega) (by
    intro j u hu
    have hj : j < X.length := by
      have := (List.getElem?_eq_some_iff.1 hu).1
      rw [bys_length] at this; exact this
    rw [nth_bys X j hj] at hu
    rw [← hu, addr_add]
    exact hc j (by rw [← hR.len]; exact hj)) (bys_one _) (by unfold maxLen; omega) (by omega) hlo
  unfold Oper.wp execOp
  simp only [hop, resolve, invoke, builtin, Sem.run_bind, Sem.run_pure, Result.andThen_ok, List.map_toArray, List.map_cons, List.map_nil, hs, hx, hr]
  show K _ _
  rw [bys_app] at hown
  have hown' := hown
  rcases hown.2 with ⟨h1, h2⟩ | ⟨g, c1, cur, h1, h2, h3⟩
  · omega
  · subst h1
    exact hK (some ⟨g, 0, none⟩) c1 w' ⟨own_base hown', isB_append hA.byte hR.byte, fun g' h => by have e : g = g' := Option.some.inj h; omega⟩ hgr
end

section
theorem Ans.as {w : World} {lo : Nat} {a : Option Addr} {n cap : Nat} {L L' : List Nat} (h : Ans w lo a n cap L) (e : L = L') : Ans w lo a n cap L' := e ▸ h
end
end Go.Proofs.Ytnimehkfnpepfaa
