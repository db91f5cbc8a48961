import Derived.Test.YtnnohgllnfmoeaaPOp
namespace Go.Proofs.Ytnnohgllnfmoeaa
open Go.RowKit
set_option linter.unusedVariables false

/-- a packet as it lies in memory, and what its data are -/
structure Pk where
  up : Bool
  se : Bool
  ap : Int
  pt : Int
  ct : Int
  a : Option Addr
  n : Nat
  c : Nat
  D : List Nat
def pk0 : Pk := ⟨false, false, 0, 0, 0, none, 0, 0, []⟩
def Pk.cells (p : Pk) : List Value := [.bool p.up, .bool p.se, .int .i64 p.ap, .int .i64 p.pt, .int .i64 p.ct, .slice p.a p.n p.c]
def Pk.val (p : Pk) : Value := pkV p.up p.se p.ap p.pt p.ct p.a p.n p.c
/-- a slice of packets as it is read -/
structure RdP (w : World) (a : Option Addr) (n cap : Nat) (F : Nat → Pk) : Prop where
  le : n ≤ cap
  max : cap ≤ maxLen
  at' : 0 < n → ∃ b off, a = some ⟨b, off, none⟩ ∧ b < w.heap.size ∧ ∀ i, i < n → ∀ j, j < 6 → w.cell? ⟨b, off + (i * 6 + j), none⟩ = (F i).cells[j]?
  data : ∀ i, i < n → Rd w (F i).a (F i).n (F i).c (F i).D
theorem addr_add' (b off j : Nat) : (⟨b, off, none⟩ : Addr).add j = ⟨b, off + j, none⟩ := by unfold Addr.add; split <;> simp_all
theorem met_packets {w : World} {full : Bool} {N : Nat} {cs : List Value}
    (h : (Sh.slice 6 56 (Sh.fcons 1 .bool (.fcons 1 .bool (.fcons 1 (.int .i64) (.fcons 1 (.int .i64) (.fcons 1 (.int .i64) (.fcons 1 (.slice 1 1 (.int .u8)) .fend))))))).met w full cs N) :
    ∃ a len cap F, cs = [.slice a len cap] ∧ RdP w a len cap F ∧ (∀ i, i < len → (full = true → (F i).c ≤ 140737488351232) ∧ (-9223372036854775808 ≤ (F i).ap ∧ (F i).ap ≤ 9223372036854775807) ∧ (-9223372036854775808 ≤ (F i).pt ∧ (F i).pt ≤ 9223372036854775807) ∧ (-9223372036854775808 ≤ (F i).ct ∧ (F i).ct ≤ 9223372036854775807) ∧ (F i).c + 1 ≤ N) ∧ (full = true → cap * 56 ≤ reachBytes) ∧ cap + 1 ≤ N := by
  rcases h with ⟨rfl, rfl⟩ | ⟨x, len, cap, G, C, rfl, rfl, hl, hm, hf, hc⟩
  · exact ⟨none, 0, 0, fun _ => pk0, rfl, ⟨Nat.le_refl _, Nat.zero_le _, fun h => by omega, fun i h => by omega⟩, fun i h => by omega, fun _ => by rw [Nat.zero_mul]; exact Nat.zero_le _, Nat.le_refl _⟩
  · have each : ∀ i, i < cap → ∃ p : Pk, (∀ j, j < 6 → w.cell? (x.add (i * 6 + j)) = p.cells[j]?) ∧ Rd w p.a p.n p.c p.D ∧ (full = true → p.c ≤ 140737488351232) ∧ (-9223372036854775808 ≤ p.ap ∧ p.ap ≤ 9223372036854775807) ∧ (-9223372036854775808 ≤ p.pt ∧ p.pt ≤ 9223372036854775807) ∧ (-9223372036854775808 ≤ p.ct ∧ p.ct ≤ 9223372036854775807) ∧ p.c + 1 ≤ G i := by
      intro i hi
      obtain ⟨h1, h2, h3⟩ := hc i hi
      obtain ⟨up, se, ap, pt, ct, a, n, c, L, e, hR, hk, hn, b1, b2, b3⟩ := met_packet h3
      refine ⟨⟨up, se, ap, pt, ct, a, n, c, L⟩, fun j hj => ?_, hR, hk, b1, b2, b3, hn⟩
      rw [h2 j hj, e]
      rfl
    have hI : Inhabited Pk := ⟨pk0⟩
    obtain ⟨F, hF⟩ := Go.Deep.choose_lt each
    have hG : ∀ i, i < cap → 1 ≤ G i := fun i hi => by have := (hF i hi).2.2.2.2.2.2; omega
    refine ⟨some x, len, cap, F, rfl, ⟨hl, hm, fun h0 => ?_, fun i hi => (hF i (by omega)).2.1⟩, fun i hi => ?_, hf, ?_⟩
    · obtain ⟨b, off, spot⟩ := x
      have hc0 := (hF 0 (by omega)).1 0 (by decide)
      have hspot : spot = none := by
        have h0' : w.cell? (⟨b, off, spot⟩ : Addr) = some (.bool (F 0).up) := by simpa [Addr.add, Pk.cells] using hc0
        simpa using World.cell?_spot h0'
      subst hspot
      refine ⟨b, off, rfl, ?_, fun i hi j hj => ?_⟩
      · have h0' : w.cell? (⟨b, off, none⟩ : Addr) = some (.bool (F 0).up) := by simpa [Addr.add, Pk.cells] using hc0
        exact World.block_lt_of_cell? w _ h0'
      · rw [← addr_add']
        exact (hF i (by omega)).1 j hj
    · obtain ⟨_, _, k1, k2, k3, k4, k5⟩ := hF i (by omega)
      have := sumN_part (F := G) (n := cap) (i := i) (by omega)
      exact ⟨k1, k2, k3, k4, by omega⟩
    · have := sumN_le (F := G) (n := cap) hG
      omega
theorem shown_packets {w : World} {full : Bool} {N : Nat} {v : Value}
    (h : (Sh.slice 6 56 (Sh.fcons 1 .bool (.fcons 1 .bool (.fcons 1 (.int .i64) (.fcons 1 (.int .i64) (.fcons 1 (.int .i64) (.fcons 1 (.slice 1 1 (.int .u8)) .fend))))))).shown w full v N) :
    ∃ a len cap F, v = .slice a len cap ∧ RdP w a len cap F ∧ (∀ i, i < len → (full = true → (F i).c ≤ 140737488351232) ∧ (-9223372036854775808 ≤ (F i).ap ∧ (F i).ap ≤ 9223372036854775807) ∧ (-9223372036854775808 ≤ (F i).pt ∧ (F i).pt ≤ 9223372036854775807) ∧ (-9223372036854775808 ≤ (F i).ct ∧ (F i).ct ≤ 9223372036854775807) ∧ (F i).c + 1 ≤ N) ∧ (full = true → cap * 56 ≤ reachBytes) ∧ cap + 1 ≤ N := by
  obtain ⟨a, len, cap, F, e, hr⟩ := met_packets h
  cases e
  exact ⟨a, len, cap, F, rfl, hr⟩
end Go.Proofs.Ytnnohgllnfmoeaa
