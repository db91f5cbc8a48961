import Derived.Test.YtnnoeeakkpaocaaFMake
namespace Go.Proofs.Ytnnoeeakkpaocaa
open Go.RowKit
set_option maxRecDepth 100000
set_option linter.unusedVariables false
set_option linter.unusedSimpArgs false

theorem nth_set (D : List Nat) (i x j : Nat) (hi : i < D.length) : nth (D.set i x) j = if i = j then x else nth D j := by
  unfold nth
  rw [List.getD_eq_getElem?_getD, List.getD_eq_getElem?_getD, List.getElem?_set]
  by_cases h : i = j
  · subst h; simp [hi]
  · simp [h]
theorem nth_append_left (A B : List Nat) (i : Nat) (h : i < A.length) : nth (A ++ B) i = nth A i := by
  unfold nth; rw [List.getD_eq_getElem?_getD, List.getD_eq_getElem?_getD, List.getElem?_append_left h]
theorem isB_append {A B : List Nat} (h : IsB A) (k : IsB B) : IsB (A ++ B) := by
  intro x hx
  rcases List.mem_append.1 hx with h1 | h1
  · exact h x h1
  · exact k x h1
theorem isB_zeros (n : Nat) : IsB (List.replicate n 0) := by
  intro x hx
  rw [List.eq_of_mem_replicate hx]; decide
theorem isB_drop {A : List Nat} (h : IsB A) (n : Nat) : IsB (A.drop n) := fun x hx => h x (List.mem_of_mem_drop hx)
theorem isB_take {A : List Nat} (h : IsB A) (n : Nat) : IsB (A.take n) := fun x hx => h x (List.mem_of_mem_take hx)

/-- new memory, then a write into it: nothing old has turned -/
theorem new_then {a b c : World} (h : a.grownBy b none) (k : b.grownBy c (some a.heap.size)) : a.grownBy c none :=
  ⟨k.os.trans h.os, k.tape.trans h.tape, k.output.trans h.output, Nat.le_trans h.size k.size, fun i hi hn => (k.block i (Nat.lt_of_lt_of_le hi h.size) (by simp; omega)).trans (h.block i hi hn)⟩
/-- a copy of L with marks in its spare room -/
structure Roomy (w : World) (g n : Nat) (L D : List Nat) : Prop where
  blk : Blk w g D
  len : D.length = n + 5
  byte : IsB D
  own : ∀ i, i < n → nth D i = nth L i
  mark : ∀ i, n ≤ i → i < n + 5 → nth D i = (90 + i) % 256
theorem mark_val (k : Nat) (h : k ≤ 140737488355328) : IntKind.u8.wrap (90 + (k : Int)) = (((90 + k) % 256 : Nat) : Int) := by
  rw [IntKind.wrap_u8']; omega

theorem roomy_any (a : Option Addr) (n cap : Nat) (L : List Nat) (w : World) (h : Rd w a n cap L) (hn : n ≤ 140737488351232) :
    Calls Try.prog 13 #[.slice a n cap] w fun e w' => e = .returned (.slice (some ⟨w.heap.size, 0, none⟩) n (n + 5)) ∧ (∃ D, Roomy w' w.heap.size n L D) ∧ w.grownBy w' none := by
  go_enter Try.func13, Try.ntmps13
  go_wp2_with (first | (at_make; refine wpList_mkB _ rfl _ _ rfl _ _ (n + 5) rfl rfl (by omega) (by omega) (by omega) ?_; intro w1 hb1 hg1) | (refine wpList_cpB rfl (.tmp 9) (.tmp 10) rfl w.heap.size (n + 5) (n + 5) a n cap rfl rfl _ L hb1 (h.grown hg1 (fun _ _ _ => by simp)) (by omega) (by simp) ?_; intro w2 hb2 hg2))
  have hgr0 : w.grownBy w2 none := new_then hg1 hg2
  go_loopw [4] (fun i wr => ∃ k : Nat, n ≤ k ∧ k ≤ n + 5 ∧ i = .int .i64 k ∧ w.grownBy wr none ∧ ∃ D, Blk wr w.heap.size D ∧ D.length = n + 5 ∧ IsB D ∧ (∀ i, i < n → nth D i = nth L i) ∧ (∀ i, n ≤ i → i < k → nth D i = (90 + i) % 256)) (fun i _ => n + 5 - (intOf i).toNat)
  case atStart =>
    refine ⟨n, by omega, by omega, rfl, hgr0, _, hb2, ?_, ?_, ?_, fun i h1 h2 => by omega⟩
    · simp [h.len]
    · exact isB_append h.byte (isB_drop (isB_zeros _) _)
    · intro i hi; exact nth_append_left _ _ _ (by rw [h.len]; exact hi)
  case round =>
    obtain ⟨k, hk1, hk2, rfl, hgr, D, hB, hlen, hby, hown, hmark⟩ := hrel
    by_cases hlt : k < n + 5
    · have hf := hB.free k
      have hc := hB.cell k (by omega)
      have hv := mark_val k (by omega)
      have hBs := hB.set k ((90 + k) % 256)
      have hlen' : Hid (D.length = n + 5) := hlen
      clear hlen
      go_wp2
      go_roundw
      case rel =>
        refine ⟨k + 1, by omega, by omega, by go_num, new_then hgr (grown_set _ _ _ _), _, hBs, by rw [List.length_set]; exact hlen'.out, isB_set hby _ _ (by omega), ?_, ?_⟩
        · intro i hi
          rw [nth_set _ _ _ _ (by rw [hlen'.out]; omega), if_neg (by omega)]; exact hown i hi
        · intro i h1 h2
          rw [nth_set _ _ _ _ (by rw [hlen'.out]; omega)]
          by_cases e : k = i
          · subst e; rw [if_pos rfl]
          · rw [if_neg e]; exact hmark i h1 (by omega)
      case measure => simp [intOf]; omega
    · obtain rfl : k = n + 5 := by omega
      go_wp2
      go_ret
      exact ⟨rfl, ⟨D, ⟨hB, hlen, hby, hown, hmark⟩⟩, hgr⟩
end Go.Proofs.Ytnnoeeakkpaocaa
