import Derived.Test.YtibomgbejpgmiaaVBas
namespace Go.Proofs.Ytibomgbejpgmiaa
open Go.RowKit
set_option maxRecDepth 100000
set_option linter.unusedVariables false
set_option linter.unusedSimpArgs false

/-- a giver's cells -/
def gvA (id : Int) (nm : ByteArray) (fl : Value) (mo bu st : Int) (fi : Bool) (at' : Int) (ag : Value) (ti pa tr li : Int) : Array Value := #[.int .i64 id, .string nm, fl, .int .i64 mo, .int .i64 bu, .int .i64 st, .bool fi, .int .i64 at', ag, .int .i64 ti, .int .i64 pa, .int .i64 tr, .int .i64 li]
def ofB (id pa li mo bu : Int) : Bool := dsB id pa li && kwB mo 1 1024 && kwB bu 1 50
def ofC (nm : Nat) (n : Nat) : Bool := kwB nm 1 32 && decide (n ≤ 65536)
def ofE (id pa li mo bu : Int) (nm n : Nat) : Nat := if ofB id pa li mo bu = true then (if ofC nm n = true then 0 else 1) else 2
theorem Try.info_gv : (Try.prog.info? 44).map (fun i => i.size) = some 13 := by kernel_rfl
theorem Try.info_tk : (Try.prog.info? 48).map (fun i => i.size) = some 14 := by kernel_rfl
set_option maxHeartbeats 4000000 in
theorem wrongOffer_any (id : Int) (nm : ByteArray) (a : Option Addr) (n cap : Nat) (mo bu st : Int) (fi : Bool) (at' : Int) (ag : Value) (ti pa tr li : Int) (w : World) :
    Calls Try.prog 56 #[.agg (gvA id nm (.slice a n cap) mo bu st fi at' ag ti pa tr li)] w fun e w' => e = .returned (.int .i64 (ofE id pa li mo bu nm.size n : Nat)) ∧ w.grownBy w' none := by
  have h0 := fun wz => wrongSide_any id pa li wz
  have h1 := fun wz => dwithin_any mo 1 1024 wz
  have h2 := fun wz => dwithin_any bu 1 50 wz
  have h3 := fun wz => nameMay_any nm wz
  have gA := World.grownBy_alloc w (.cells #[.int .i64 id, .string nm, .slice a n cap, .int .i64 mo, .int .i64 bu, .int .i64 st, .bool fi, .int .i64 at', ag, .int .i64 ti, .int .i64 pa, .int .i64 tr, .int .i64 li] 44) none
  unfold ofE ofB ofC
  unfold dsE at h0
  unfold gvA
  generalize dsB id pa li = b0 at h0 ⊢
  generalize kwB mo 1 1024 = b1 at h1 ⊢
  generalize kwB bu 1 50 = b2 at h2 ⊢
  generalize kwB nm.size 1 32 = b3 at h3 ⊢
  have t0 : True := trivial
  cases b0
  case false =>
    go_enter Try.func56, Try.ntmps56
    go_wp2_with (first
      | (go_at_call 58; refine (h0 _).mono ?_; rintro e w1 ⟨rfl, rfl⟩)
      | (go_at_call 84; have _t := t0; clear t0; refine (h1 _).mono ?_; rintro e w1 ⟨rfl, rfl⟩; have t1 : True := trivial)
      | (go_at_call 84; have _t := t1; clear t1; refine (h2 _).mono ?_; rintro e w1 ⟨rfl, rfl⟩)
      | (go_at_call 90; refine (h3 _).mono ?_; rintro e w1 ⟨rfl, rfl⟩))
    go_ret
    exact ⟨rfl, gA⟩
  cases b1
  case false =>
    go_enter Try.func56, Try.ntmps56
    go_wp2_with (first
      | (go_at_call 58; refine (h0 _).mono ?_; rintro e w1 ⟨rfl, rfl⟩)
      | (go_at_call 84; have _t := t0; clear t0; refine (h1 _).mono ?_; rintro e w1 ⟨rfl, rfl⟩; have t1 : True := trivial)
      | (go_at_call 84; have _t := t1; clear t1; refine (h2 _).mono ?_; rintro e w1 ⟨rfl, rfl⟩)
      | (go_at_call 90; refine (h3 _).mono ?_; rintro e w1 ⟨rfl, rfl⟩))
    go_ret
    exact ⟨rfl, gA⟩
  cases b2
  case false =>
    go_enter Try.func56, Try.ntmps56
    go_wp2_with (first
      | (go_at_call 58; refine (h0 _).mono ?_; rintro e w1 ⟨rfl, rfl⟩)
      | (go_at_call 84; have _t := t0; clear t0; refine (h1 _).mono ?_; rintro e w1 ⟨rfl, rfl⟩; have t1 : True := trivial)
      | (go_at_call 84; have _t := t1; clear t1; refine (h2 _).mono ?_; rintro e w1 ⟨rfl, rfl⟩)
      | (go_at_call 90; refine (h3 _).mono ?_; rintro e w1 ⟨rfl, rfl⟩))
    go_ret
    exact ⟨rfl, gA⟩
  cases b3
  case false =>
    go_enter Try.func56, Try.ntmps56
    go_wp2_with (first
      | (go_at_call 58; refine (h0 _).mono ?_; rintro e w1 ⟨rfl, rfl⟩)
      | (go_at_call 84; have _t := t0; clear t0; refine (h1 _).mono ?_; rintro e w1 ⟨rfl, rfl⟩; have t1 : True := trivial)
      | (go_at_call 84; have _t := t1; clear t1; refine (h2 _).mono ?_; rintro e w1 ⟨rfl, rfl⟩)
      | (go_at_call 90; refine (h3 _).mono ?_; rintro e w1 ⟨rfl, rfl⟩))
    go_ret
    exact ⟨rfl, gA⟩
  by_cases hf : n ≤ 65536
  · rw [decide_eq_true hf]
    have hf' : ¬ (65536 < (n : Int)) := by omega
    go_enter Try.func56, Try.ntmps56
    go_wp2_with (first
      | (go_at_call 58; refine (h0 _).mono ?_; rintro e w1 ⟨rfl, rfl⟩)
      | (go_at_call 84; have _t := t0; clear t0; refine (h1 _).mono ?_; rintro e w1 ⟨rfl, rfl⟩; have t1 : True := trivial)
      | (go_at_call 84; have _t := t1; clear t1; refine (h2 _).mono ?_; rintro e w1 ⟨rfl, rfl⟩)
      | (go_at_call 90; refine (h3 _).mono ?_; rintro e w1 ⟨rfl, rfl⟩))
    go_ret
    exact ⟨rfl, gA⟩
  · rw [decide_eq_false hf]
    have hf' : 65536 < (n : Int) := by omega
    go_enter Try.func56, Try.ntmps56
    go_wp2_with (first
      | (go_at_call 58; refine (h0 _).mono ?_; rintro e w1 ⟨rfl, rfl⟩)
      | (go_at_call 84; have _t := t0; clear t0; refine (h1 _).mono ?_; rintro e w1 ⟨rfl, rfl⟩; have t1 : True := trivial)
      | (go_at_call 84; have _t := t1; clear t1; refine (h2 _).mono ?_; rintro e w1 ⟨rfl, rfl⟩)
      | (go_at_call 90; refine (h3 _).mono ?_; rintro e w1 ⟨rfl, rfl⟩))
    go_ret
    exact ⟨rfl, gA⟩
end Go.Proofs.Ytibomgbejpgmiaa
