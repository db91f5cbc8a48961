import Derived.Test.YtaigcjhachkmmaaDoorYSl
namespace Go.Proofs.YtaigcjhachkmmaaDoor
open Go.RowKit
set_option maxRecDepth 100000
set_option linter.unusedVariables false
set_option linter.unusedSimpArgs false
/-- what 'Sealed' and 'Seal' answer alike -/
def slE (id : Int) (n : Nat) (S : List Int) (top seen z : Int) (m : Nat) : Int := if kmB id n S top seen = true then (if kwB z 0 281474976710655 = true then (if m ≤ 1000 then 0 else 1) else 2) else 11
def slR (id : Int) (n : Nat) (S : List Int) (top seen z : Int) (B : List Nat) : List Nat := if slE id n S top seen z B.length = 0 then slL (fun i => (nthI S i).toNat) z.toNat id.toNat B else []
theorem slE_zero {id : Int} {n : Nat} {S : List Int} {top seen z : Int} {m : Nat} (h : slE id n S top seen z m = 0) : kmB id n S top seen = true ∧ kwB z 0 281474976710655 = true ∧ m ≤ 1000 := by
  unfold slE at h
  by_cases h1 : kmB id n S top seen = true
  · rw [if_pos h1] at h
    by_cases h2 : kwB z 0 281474976710655 = true
    · rw [if_pos h2] at h
      by_cases h3 : m ≤ 1000
      · exact ⟨h1, h2, h3⟩
      · rw [if_neg h3] at h; omega
    · rw [if_neg h2] at h; omega
  · rw [if_neg h1] at h; omega
theorem slR_of {id : Int} {n : Nat} {S : List Int} {top seen z : Int} {B : List Nat} (h : ¬ slE id n S top seen z B.length = 0) : slR id n S top seen z B = [] := if_neg h
theorem seal_all (HD : HideOk) (id : Int) (a bo : Option Addr) (n cap m cb : Nat) (top seen z : Int) (S : List Int) (B : List Nat) (w : World) (hL : Lin w) (hp : RdI w a n cap S) (hb : Rd w bo m cb B) :
    Calls Tryd.prog 14 #[kyV id a n cap top seen, .int .i64 z, .slice bo m cb] w fun e w' => ∃ a' n' c', e = .returned (.tuple #[.slice a' n' c', .int .i64 (slE id n S top seen z m)]) ∧ Ans w' w.heap.size a' n' c' (slR id n S top seen z B) ∧ w.grownBy w' none ∧ n' ≤ 2000 := by
  have hBl := hb.len
  by_cases hE : slE id n S top seen z m = 0
  · obtain ⟨h1, h2, h3⟩ := slE_zero hE
    obtain ⟨⟨i0, i1⟩, rfl, hW⟩ := kmB_true h1
    obtain ⟨z0, z1⟩ := kwB_ok h2
    have hR : slR id 8 S top seen z B = slL (fun i => (nthI S i).toNat) z.toNat id.toNat B := by unfold slR; rw [hBl, if_pos hE]
    rw [hE, hR]
    obtain ⟨i, rfl⟩ : ∃ i : Nat, id = (i : Int) := ⟨id.toNat, by omega⟩
    obtain ⟨c, rfl⟩ : ∃ c : Nat, z = (c : Int) := ⟨z.toNat, by omega⟩
    refine (seal_ok HD i a bo cap m cb c top seen S _ B w hL hp h1 (by omega) hW (by omega) h2 hb h3).mono ?_
    rintro e w' ⟨a', c', rfl, hA, g⟩
    exact ⟨a', _, c', rfl, hA, g, by omega⟩
  · have hR : slR id n S top seen z B = [] := slR_of (by rw [hBl]; exact hE)
    rw [hR]
    cases h1 : kmB id n S top seen
    · have e : slE id n S top seen z m = 11 := by unfold slE; rw [h1]; rfl
      rw [e]
      refine (seal_bad id a bo n cap m cb top seen z S w hp h1).mono ?_
      rintro e w' ⟨rfl, g⟩
      exact ⟨none, 0, 0, rfl, ans_nil _ _, g, by omega⟩
    · cases h2 : kwB z 0 281474976710655
      · have e : slE id n S top seen z m = 2 := by unfold slE; rw [h1, h2]; rfl
        rw [e]
        refine (seal_range id a bo n cap m cb top seen z S w hp h1 h2).mono ?_
        rintro e w' ⟨rfl, g⟩
        exact ⟨none, 0, 0, rfl, ans_nil _ _, g, by omega⟩
      · have h3 : ¬ m ≤ 1000 := fun h3 => hE (by unfold slE; rw [if_pos h1, if_pos h2, if_pos h3])
        have e : slE id n S top seen z m = 1 := by unfold slE; rw [if_pos h1, if_pos h2, if_neg h3]
        rw [e]
        refine (seal_long id a bo n cap m cb top seen z S w hp h1 h2 B hb (by omega)).mono ?_
        rintro e w' ⟨rfl, g⟩
        exact ⟨none, 0, 0, rfl, ans_nil _ _, g, by omega⟩
end Go.Proofs.YtaigcjhachkmmaaDoor
