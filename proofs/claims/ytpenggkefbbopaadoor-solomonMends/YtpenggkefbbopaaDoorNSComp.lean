import Derived.Test.YtpenggkefbbopaaDoorNGG
import Derived.Test.YtpenggkefbbopaaDoorSNear
namespace Go.Proofs.YtpenggkefbbopaaDoor
open Go.RowKit
set_option maxRecDepth 100000
set_option linter.unusedVariables false
set_option linter.unusedSimpArgs false

/-- whatever is wrong at few places is mended -/
theorem dec_complete [Add GF] [Mul GF] [OfNat GF 0] [OfNat GF 1] [L : Nonempty GL] {W V : List Nat} (hW : IsB W) (hV : IsB V) (H : List Bool) (n c : Nat) (h1 : W.length = n) (h2 : V.length = n) (h3 : H.length = n) (hn : n ≤ 255) (hc : c ≤ 64) (hv : valL V c = [])
    (he : 2 * cn (wrU W V H) n + cntB H n ≤ c) : decO W c H = some (V, difN W V n) := by
  obtain ⟨k1, k2⟩ := near_key hW hV H n c h1 h2 h3 hn hc hv he
  unfold decO
  rw [h3, if_neg (by omega)]
  by_cases hz : valL W c = []
  · rw [if_pos hz]
    have e : W = V := list_ext (by omega) (fun i hi => k1 hz i (by omega))
    subst e
    congr 2
    unfold difN
    rw [List.filter_eq_nil_iff.2]
    intro p _; simp
  · rw [if_neg hz]
    have e : mendL W (accA (valL W c) c H) (accS (valL W c) c H).2 = V := by
      refine list_ext (by simp [mendL]; omega) fun p hp => ?_
      have hp' : p < n := by simpa [mendL, h1] using hp
      have e1 : nth (mendL W (accA (valL W c) c H) (accS (valL W c) c H).2) p = nth W p ^^^ mby (accA (valL W c) c H) (accS (valL W c) c H).2 W.length p := nth_map_range _ _ _ (by omega)
      rw [e1, h1, k2 p hp', ← Nat.xor_assoc, Nat.xor_self, Nat.zero_xor]
    rw [e, if_pos hv, h1]
    congr 2
    unfold mendN difN
    refine List.filter_congr fun p hp => ?_
    rw [k2 p (List.mem_range.1 hp)]
    by_cases e2 : nth W p = nth V p
    · rw [e2, Nat.xor_self]; simp
    · have e3 : nth W p ^^^ nth V p ≠ 0 := fun h => e2 (xor_eq h)
      rw [bne_iff_ne.2 e3, bne_iff_ne.2 e2]
theorem enc_val {L : List Nat} (hL : IsB L) (c : Nat) (hc : c ≤ 64) (hn : L.length + c ≤ 255) : valL (encL L c) c = [] := by
  unfold valL
  refine trimL_nil (fun j => ?_)
  by_cases hj : j < c
  · rw [nth_synL _ _ _ hj, enc_code hL c j hc hn hj]
  · exact nth_out _ _ (by rw [synL_len]; omega)

/-! which of n things a raw number speaks of -/
def pk (x : Int) (n : Nat) : Nat := (if x < 0 then -(x + 1) else x).toNat % n
theorem pk_lt (x : Int) (n : Nat) (h : 0 < n) : pk x n < n := Nat.mod_lt _ h
theorem picked_any (x : Int) (n : Nat) (w : World) (hx1 : -9223372036854775808 ≤ x) (hx2 : x ≤ 9223372036854775807) (hn : 0 < n) (hn2 : n ≤ 100000) :
    Calls Tryd.prog 4 #[.int .i64 x, .int .i64 n] w fun e w' => e = .returned (.int .i64 (pk x n : Nat)) ∧ w' = w := by
  have hnz : ((n : Int) == 0) = false := by simp; omega
  by_cases h : x < 0
  · obtain ⟨y, hy⟩ := Int.eq_ofNat_of_zero_le (a := -(x + 1)) (by omega)
    obtain ⟨z, hz⟩ : ∃ z, z = y % n := ⟨_, rfl⟩
    have HP : Hid (pk x n = z) := by show _ = _; unfold pk; rw [if_pos h, hy, Int.toNat_natCast, hz]
    have hr : (-(x + 1)) % (n : Int) = (z : Int) := by rw [hy, hz]; exact (Int.natCast_emod y n).symm
    have hr2 : (-(x + 1)).tmod (n : Int) = (z : Int) := by rw [Int.tmod_eq_emod_of_nonneg (by omega)]; exact hr
    have hge : 0 ≤ -(x + 1) := by omega
    clear hz hy
    go_enter Tryd.func4, Tryd.ntmps4
    go_wp2
    go_ret
    exact ⟨by rw [HP.out]; exact ret_int (by first | rfl | omega), rfl⟩
  · obtain ⟨y, hy⟩ := Int.eq_ofNat_of_zero_le (a := x) (by omega)
    obtain ⟨z, hz⟩ : ∃ z, z = y % n := ⟨_, rfl⟩
    have HP : Hid (pk x n = z) := by show _ = _; unfold pk; rw [if_neg h, hy, Int.toNat_natCast, hz]
    have hr : x % (n : Int) = (z : Int) := by rw [hy, hz]; exact (Int.natCast_emod y n).symm
    have hr2 : x.tmod (n : Int) = (z : Int) := by rw [Int.tmod_eq_emod_of_nonneg (by omega)]; exact hr
    clear hz hy
    go_enter Tryd.func4, Tryd.ntmps4
    go_wp2
    go_ret
    exact ⟨by rw [HP.out]; exact ret_int (by first | rfl | omega), rfl⟩
end Go.Proofs.YtpenggkefbbopaaDoor
