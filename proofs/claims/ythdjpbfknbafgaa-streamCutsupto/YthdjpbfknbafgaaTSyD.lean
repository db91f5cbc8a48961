import Derived.Test.YthdjpbfknbafgaaTSyB
namespace Go.Proofs.Ythdjpbfknbafgaa
open Go.RowKit Go.Shelf
set_option maxRecDepth 100000
set_option linter.unusedVariables false
set_option linter.unusedSimpArgs false

/-- bits that come in pieces come as if they came at once -/
theorem tkX_congr (r : Rx) (s : Mx) (A B : List Nat) (n : Nat) (h : ∀ i, i < n → nth A i = nth B i) : tkX r s A n = tkX r s B n := by
  induction n with
  | zero => rfl
  | succ n ih =>
    have e := ih (fun i hi => h i (by omega))
    show (_, _) = (_, _)
    rw [e, h n (by omega)]
theorem tkX_add (r : Rx) (s : Mx) (A B : List Nat) (n : Nat) : tkX r s (A ++ B) (A.length + n) = ((tkX r (tkX r s A A.length).1 B n).1, (tkX r s A A.length).2 ++ (tkX r (tkX r s A A.length).1 B n).2) := by
  induction n with
  | zero =>
    rw [Nat.add_zero, tkX_congr r s (A ++ B) A A.length (fun i hi => nth_append_left _ _ _ hi)]
    show _ = (_, _ ++ [])
    rw [List.append_nil]; rfl
  | succ n ih =>
    have e : nth (A ++ B) (A.length + n) = nth B n := by
      unfold nth
      rw [List.getD_eq_getElem?_getD, List.getD_eq_getElem?_getD, List.getElem?_append_right (by omega), Nat.add_sub_cancel_left]
    rw [show A.length + (n + 1) = (A.length + n) + 1 from by omega]
    show ((stX r (inX (tkX r s (A ++ B) (A.length + n)).1 _)).1, (tkX r s (A ++ B) (A.length + n)).2 ++ (stX r (inX (tkX r s (A ++ B) (A.length + n)).1 _)).2) = _
    rw [ih, e, List.append_assoc]
    rfl
theorem clone_any (b off n cap : Nat) (D : List Nat) (w : World) (hp : Rd w (some ⟨b, off, none⟩) n cap D) (h0 : 0 < n) (hn : n ≤ 140737488351232) :
    Calls Try.prog 29 #[.slice (some ⟨b, off, none⟩) n cap] w fun e w' => ∃ g' c', e = .returned (.slice (some ⟨g', 0, none⟩) n c') ∧ Ans w' w.heap.size (some ⟨g', 0, none⟩) n c' D ∧ w.grownBy w' none := by
  have gA := World.grownBy_alloc w (.cells #[] 5) none
  have hA := heap_alloc_new w (.cells #[] 5)
  have hown : (w.alloc (.cells #[] 5)).ownsRow 0 5 1 (.slice (some ⟨w.heap.size, 0, none⟩) 0 0) 0 (bys []) := ⟨rfl, .inr ⟨w.heap.size, 0, #[], rfl, Nat.zero_le _, hA, Nat.le_refl _, Nat.zero_le _, rfl, rfl⟩⟩
  have hpA := hp.keep gA
  have heq := fun w => Lib.run_eql_slice_nil (P := Try.prog) w 25 5 (some ⟨b, off, none⟩) n cap 0 0 Try.underlying25
  go_enter Try.func29, Try.ntmps29
  go_wp2_with (at_builtin; refine wpList_apB _ rfl _ _ rfl (.slice (some ⟨w.heap.size, 0, none⟩) 0 0) 0 (bys []) rfl hown ⟨b, off, none⟩ n cap (bys D) rfl (by rw [bys_length, hp.len]) (rd_news hpA h0) (bys_one _) h0 (by omega) ?_; intro g' c' w2 hg2 hgr2 hown2)
  go_ret
  rw [Nat.zero_add] at *
  refine ⟨g', c', rfl, ⟨hown2, hp.byte, fun x hx => ?_⟩, grown_far gA hgr2 (fun x hx => by have e : w.heap.size = x := Option.some.inj hx; omega)⟩
  have e : g' = x := Option.some.inj hx
  rcases hg2 with h | h
  · have e2 : w.heap.size = g' := Option.some.inj h
    omega
  · simp at h; omega
end Go.Proofs.Ythdjpbfknbafgaa
