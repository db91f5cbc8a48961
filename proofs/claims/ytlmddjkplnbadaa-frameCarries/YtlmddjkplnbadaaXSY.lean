import Derived.OpenShut
import Derived.Test.YtlmddjkplnbadaaXMR
import Derived.Test.YtlmddjkplnbadaaNPk
import Derived.Test.YtlmddjkplnbadaaXAG
import Derived.Test.YtlmddjkplnbadaaKHa
import Derived.Test.YtlmddjkplnbadaaZSh
import Derived.Test.YtlmddjkplnbadaaFB2
import Derived.Test.YtlmddjkplnbadaaPSam
namespace Go.Proofs.Ytlmddjkplnbadaa
open Go.RowKit
set_option maxRecDepth 100000
set_option linter.unusedVariables false
set_option linter.unusedSimpArgs false

theorem nx_rows (f : Nat) : ∀ (m : Nat) (P : List (List Nat)) (go : Nat), m ≤ 60000 → (∀ x, x ∈ (nx f m P go).2.1 → x ∈ P ∨ x.length ≤ 60000) ∧ (nx f m P go).2.1.length ≤ max P.length 1 ∧ (nx f m P go).1.length ≤ m := by
  induction f with
  | zero => intro m P go _; exact ⟨fun x hx => .inl hx, Nat.le_max_left _ _, Nat.zero_le _⟩
  | succ f ih =>
    intro m P go hm
    rw [nx]
    by_cases h0 : m = 0
    · rw [if_pos h0]; exact ⟨fun x hx => .inl hx, Nat.le_max_left _ _, Nat.zero_le _⟩
    · rw [if_neg h0]
      have hP : (∀ x, x ∈ (if P.length = 0 then [nxF m] else P) → x ∈ P ∨ x.length ≤ 60000) ∧ (if P.length = 0 then [nxF m] else P).length ≤ max P.length 1 := by
        split
        · refine ⟨fun x hx => .inr ?_, Nat.le_max_right _ _⟩
          rw [List.mem_singleton.1 hx, nxF_len m hm]; omega
        · exact ⟨fun x hx => .inl hx, Nat.le_max_left _ _⟩
      generalize (if P.length = 0 then [nxF m] else P) = P' at hP
      by_cases h : (P'.getD 0 []).length - go ≤ m
      · rw [if_pos h]
        obtain ⟨i1, i2, i3⟩ := ih (m - ((P'.getD 0 []).length - go)) (P'.drop 1) 0 (by omega)
        refine ⟨fun x hx => ?_, ?_, ?_⟩
        · rcases i1 x hx with h1 | h1
          · exact hP.1 x (List.mem_of_mem_drop h1)
          · exact .inr h1
        · have e : (P'.drop 1).length = P'.length - 1 := List.length_drop
          have := hP.2
          show (nx f _ _ 0).2.1.length ≤ _
          omega
        · rw [List.length_append, List.length_drop]; omega
      · rw [if_neg h]
        refine ⟨hP.1, hP.2, ?_⟩
        rw [List.length_take, List.length_drop]; omega
/-- some answer there is -/
theorem nx_ex (cr sz ma tu : Int) (Qs : List Qd) (st : Int) : ∃ (r0 r1 r2 r3 : Int) (Q' : List Qd) (Y : List Nat) (Er : Nat), NX cr sz ma tu Qs st r0 r1 r2 r3 Q' Y Er := by
  cases hS : seD cr sz ma tu Qs with
  | false => exact ⟨_, _, _, _, _, _, _, .bad hS⟩
  | true =>
    cases hW : wiB st 4294967295 with
    | false => exact ⟨_, _, _, _, _, _, _, .state hS hW⟩
    | true =>
      obtain ⟨hl7, hq7⟩ := seD_ok hS
      have hS' := hS
      unfold seD at hS'
      simp only [Bool.and_eq_true, decide_eq_true_eq, List.all_eq_true] at hS'
      obtain ⟨⟨⟨⟨ho, hm⟩, ht⟩, _⟩, hq⟩ := hS'
      have hm : 0 ≤ ma ∧ ma ≤ 255 := of_decide_eq_true hm
      have ht : 0 ≤ tu ∧ tu ≤ 6 := of_decide_eq_true ht
      have hsz : 13 ≤ sz ∧ sz ≤ 2048 := by
        unfold opE at ho
        split at ho
        · split at ho
          · rename_i h; exact of_decide_eq_true h
          · cases ho
        · cases ho
      have key : ∃ (CH OW FI MA TU : Int) (DA : List Nat) (V : List Qd), TF (sz - 12).toNat tu.toNat ma Qs CH OW FI MA TU DA V := by
        by_cases hc : chF tu.toNat Qs 7 = 7
        · exact ⟨_, _, _, _, _, _, _, .fill hc⟩
        · obtain ⟨h1, h2⟩ := chF_ne tu.toNat Qs 7 hc
          have hcl : chF tu.toNat Qs 7 < Qs.length := by omega
          have hqe : Qs[chF tu.toNat Qs 7]? = some Qs[chF tu.toNat Qs 7] := List.getElem?_eq_getElem hcl
          have hge : Qs.getD (chF tu.toNat Qs 7) qd0 = Qs[chF tu.toNat Qs 7] := by rw [List.getD_eq_getElem?_getD, hqe]; rfl
          rw [hge] at h2
          have hmem : Qs[chF tu.toNat Qs 7] ∈ Qs := List.getElem_mem hcl
          have hqq := hq _ hmem
          have hr7 := (hq7 _ hmem).2
          generalize Qs[chF tu.toNat Qs 7] = q at hqe h2 hqq hr7
          unfold quD at hqq
          simp only [Bool.and_eq_true, decide_eq_true_eq, List.all_eq_true] at hqq
          obtain ⟨⟨⟨how, _⟩, _⟩, hgo⟩ := hqq
          have how : 0 ≤ q.ow ∧ q.ow ≤ 255 := of_decide_eq_true how
          rw [if_neg (by omega)] at hgo
          have hgo : 0 ≤ q.go ∧ q.go ≤ ((q.P.getD 0 []).length : Int) - 1 := of_decide_eq_true hgo
          refine ⟨_, _, _, _, _, _, _, .take (chF tu.toNat Qs 7) q.go.toNat (nx (sz - 12).toNat (sz - 12).toNat q.P q.go.toNat).2.2 q (nx (sz - 12).toNat (sz - 12).toNat q.P q.go.toNat).1 (nx (sz - 12).toNat (sz - 12).toNat q.P q.go.toNat).2.1 rfl h1 hqe (by omega) how h2 ⟨Nat.zero_le _, ⟨(sz - 12).toNat, Nat.sub_le _ _, rfl, rfl⟩, fun x hx => ?_, fun x hx => ?_, fun e => by rw [e] at h2; cases h2⟩⟩
          · have := hr7 x hx; omega
          · have e : q.P.getD 0 [] = x := by rw [List.getD_eq_getElem?_getD, hx]; rfl
            rw [e] at hgo
            omega
      obtain ⟨CH, OW, FI, MA, TU, DA, V, hT⟩ := key
      exact ⟨_, _, _, _, _, _, _, .next hS hW (sz - 12).toNat tu.toNat CH OW FI MA TU DA V (by omega) (by omega) hm (by omega) (by omega) hT⟩
theorem seD_sz {cr sz ma tu : Int} {Qs : List Qd} (hS : seD cr sz ma tu Qs = true) : (0 ≤ cr ∧ cr ≤ 1023) ∧ (13 ≤ sz ∧ sz ≤ 2048) := by
  unfold seD at hS
  simp only [Bool.and_eq_true, decide_eq_true_eq, List.all_eq_true] at hS
  have ho := hS.1.1.1.1
  unfold opE at ho
  split at ho
  · rename_i h0
    split at ho
    · rename_i h; exact ⟨of_decide_eq_true h0, of_decide_eq_true h⟩
    · cases ho
  · cases ho
theorem nx_pa {cr sz ma tu st CH OW FI MA TU : Int} {Qs V : List Qd} {room t : Nat} {DA : List Nat} (hS : seD cr sz ma tu Qs = true) (hW : wiB st 4294967295 = true) (hsz : sz = (room : Int) + 12) (hma : 0 ≤ ma ∧ ma ≤ 255) (hT : TF room t ma Qs CH OW FI MA TU DA V) : paE cr CH ma OW FI st room = 0 := by
  obtain ⟨hcr, hz⟩ := seD_sz hS
  have hh : heB cr CH ma OW FI = true := by
    unfold heB
    rw [wiB_t hcr, wiB_t hma]
    rcases hT.inv with ⟨h, rfl, rfl, rfl, rfl, rfl, rfl, rfl⟩ | ⟨ch, g, TG, q, TP, h, hch, hq, hg, h0, hne, hK, rfl, rfl, rfl, rfl, rfl, rfl⟩
    · rfl
    · skip
      rw [wiB_t (n := (ch : Int)) (by omega), wiB_t h0, wiB_t]
      · rfl
      · unfold fiT
        split
        · omega
        · split <;> omega
  unfold paE
  rw [hh, hW, if_pos (by rfl), if_pos]
  exact decide_eq_true (by omega)
/-- what First comes to, as long as none is known -/
def fiG (room d x g : Nat) : Int := if room ≤ d then 2047 else if g = 0 then (d : Int) else if x - g < room - d then ((d + (x - g) : Nat) : Int) else 2047
structure FIv (F FI : Int) (room d x g : Nat) : Prop where
  p : (F ≠ 2047 ∧ F = FI) ∨ (F = 2047 ∧ FI = fiG room d x g)
theorem FIv.done {F FI : Int} {room x g : Nat} (h : FIv F FI room room x g) : F = FI := by
  rcases h.p with ⟨_, h⟩ | ⟨h, h2⟩
  · exact h
  · rw [h2, h]; unfold fiG; rw [if_pos (Nat.le_refl _)]
/-- known now -/
theorem FIv.set {FI : Int} {room d x g : Nat} (h : FIv 2047 FI room d x g) (hd : d < room) (hr : room ≤ 2040) (hg : g = 0) (room' d' x' g' : Nat) : FIv (d : Int) FI room' d' x' g' := by
  rcases h.p with ⟨h, _⟩ | ⟨_, h⟩
  · exact absurd rfl h
  · refine ⟨.inl ⟨by omega, ?_⟩⟩
    rw [h]; unfold fiG; rw [if_neg (by omega), if_pos hg]
theorem FIv.more {F FI : Int} {room d d' x x' g g' : Nat} (h : FIv F FI room d x g) (hd : d < room) (hg : F = 2047 → g ≠ 0) (hx : (g' = 0 ∧ d' = d + (x - g) ∧ x - g ≤ room - d) ∨ (d' = room ∧ ¬ x - g ≤ room - d)) : FIv F FI room d' x' g' := by
  rcases h.p with h | ⟨h, h2⟩
  · exact ⟨.inl h⟩
  · refine ⟨.inr ⟨h, ?_⟩⟩
    have hg := hg h
    rw [h2]
    unfold fiG
    rw [if_neg (by omega), if_neg hg]
    rcases hx with ⟨h3, h4, h5⟩ | ⟨h3, h4⟩
    · by_cases h6 : x - g < room - d
      · rw [if_pos h6, if_neg (by omega), if_pos h3, h4]
      · rw [if_neg h6, if_pos (by omega)]
    · rw [if_neg (by omega), if_pos (by omega)]
theorem FIv.any {F FI : Int} {room d x g : Nat} (h : FIv F FI room d x g) (hF : F ≠ 2047) (room' d' x' g' : Nat) : FIv F FI room' d' x' g' := by
  rcases h.p with h | ⟨h, _⟩
  · exact ⟨.inl h⟩
  · exact absurd h hF

theorem FIv.g0 {F FI : Int} {room d x : Nat} (h : FIv F FI room d x 0) (x' : Nat) : FIv F FI room d x' 0 := by
  rcases h.p with h | ⟨h, h2⟩
  · exact ⟨.inl h⟩
  · refine ⟨.inr ⟨h, ?_⟩⟩
    rw [h2]; unfold fiG; rfl

open Go.ChangeShapes Go.WideShapes
/-- a queue as it is read, with its rows as data -/
structure Qr where
  ow : Int
  a : Option Addr
  n : Nat
  c : Nat
  go : Int
  P : List (List Nat)
def Qr.cells (k : Qr) : List Value := [.int .i64 k.ow, .slice k.a k.n k.c, .int .i64 k.go]
end Go.Proofs.Ytlmddjkplnbadaa
