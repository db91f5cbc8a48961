import Derived.Test.YtnimehkfnpepfaaWh34
import Derived.Test.YtnimehkfnpepfaaWh20
import Derived.Test.YtnimehkfnpepfaaWh27
import Derived.Lib.MinMax
import Derived.Test.YtnimehkfnpepfaaWh25
namespace Go.Proofs.Ytnimehkfnpepfaa
open Go.RowKit
set_option maxRecDepth 100000
set_option linter.unusedVariables false
set_option linter.unusedSimpArgs false

section
/-- what Whole answers -/
def whV (tB : Bool) (V : Tv) : ByteArray × List Nat × Nat := if tB = false then (⟨#[]⟩, [], 11) else if V.st = 3 then (V.nm, V.L.take V.si.toNat, 0) else (⟨#[]⟩, [], 7)
theorem ha_le {V : Tv} (ho : TvO V) (h3 : V.st = 3) : V.si ≤ (V.L.length : Int) := by
  have h := ho.ov h3
  unfold haB at h
  have h := of_decide_eq_true h
  rw [ho.rc]
  have hu : ¬ uqA (giF V.G) 0 V.G.length < V.si := by
    intro e
    unfold uqF at h
    rw [if_pos e, List.length_append] at h
    have h : (uqL (giF V.G) 0 V.si V.G.length).length + 1 = 0 := h
    omega
  obtain ⟨h1, h2⟩ := uqA_rise V.G.length ho.ri
  unfold rcN
  by_cases e : V.G.length = 0
  · rw [if_pos e]
    rw [e] at hu
    have hu : ¬ (0 : Int) < V.si := hu
    omega
  · rw [if_neg e, ← h2 (by omega)]
    omega

set_option maxHeartbeats 32000000 in
theorem whole_any (V : Tv) (a q : Option Addr) (c d : Nat) (w : World) (hL : Rd w a V.L.length c V.L) (hG : RdG w q V.G.length d (giF V.G)) (hn : V.L.length ≤ 140737488351232) (hm : V.G.length ≤ 8796093021952) :
    Calls Try.prog 43 #[.agg (tkA V.id V.kn V.nm V.si V.en V.la V.su (.slice q V.G.length d) (.slice a V.L.length c) V.st V.ti V.pa V.tr V.li)] w fun e w' => ∃ a' c', e = .returned (.tuple #[.string (whV (tmB V.id V.kn V.nm V.si V.en V.la V.su (giF V.G) V.G.length V.L V.st V.ti V.pa V.tr V.li) V).1, .slice a' (whV (tmB V.id V.kn V.nm V.si V.en V.la V.su (giF V.G) V.G.length V.L V.st V.ti V.pa V.tr V.li) V).2.1.length c', .int .i64 ((whV (tmB V.id V.kn V.nm V.si V.en V.la V.su (giF V.G) V.G.length V.L V.st V.ti V.pa V.tr V.li) V).2.2 : Nat)]) ∧ Ans w' w.heap.size a' (whV (tmB V.id V.kn V.nm V.si V.en V.la V.su (giF V.G) V.G.length V.L V.st V.ti V.pa V.tr V.li) V).2.1.length c' (whV (tmB V.id V.kn V.nm V.si V.en V.la V.su (giF V.G) V.G.length V.L V.st V.ti V.pa V.tr V.li) V).2.1 ∧ w.grownBy w' none := by
  have i14 := Try.info_tk
  have kM := fun wz (k1 : Rd wz a V.L.length c V.L) (k : RdG wz q V.G.length d (giF V.G)) => takerMay_any V.id V.kn V.nm V.si V.en V.la V.su q V.G.length d a V.L.length c V.st V.ti V.pa V.tr V.li (giF V.G) V.L wz k1 k hm hn
  have hgo := fun h => tmB_go (V := V) h
  have HGO : Hid _ := hgo
  clear hgo
  unfold tkA at kM
  generalize (tmB V.id V.kn V.nm V.si V.en V.la V.su (giF V.G) V.G.length V.L V.st V.ti V.pa V.tr V.li) = gB at kM HGO
  have b1 := BxS.new w 48 #[.int .i64 V.id, .bool V.kn, .string V.nm, .int .i64 V.si, .bool V.en, .int .i64 V.la, .int .i64 V.su, .slice q V.G.length d, .slice a V.L.length c, .int .i64 V.st, .int .i64 V.ti, .int .i64 V.pa, .int .i64 V.tr, .int .i64 V.li]
  have y1 := World.grownBy_alloc w (.cells #[.int .i64 V.id, .bool V.kn, .string V.nm, .int .i64 V.si, .bool V.en, .int .i64 V.la, .int .i64 V.su, .slice q V.G.length d, .slice a V.L.length c, .int .i64 V.st, .int .i64 V.ti, .int .i64 V.pa, .int .i64 V.tr, .int .i64 V.li] 48) none
  unfold tkA
  generalize hw1 : w.alloc (.cells #[.int .i64 V.id, .bool V.kn, .string V.nm, .int .i64 V.si, .bool V.en, .int .i64 V.la, .int .i64 V.su, .slice q V.G.length d, .slice a V.L.length c, .int .i64 V.st, .int .i64 V.ti, .int .i64 V.pa, .int .i64 V.tr, .int .i64 V.li] 48) = w1 at b1 y1
  go_enter Try.func43, Try.ntmps43
  refine wp_seq_k fun K1 hK1 => ?_
  have HK1 : Hid _ := hK1
  clear hK1
  go_wp2
  refine HK1.out _ _ ?_
  clear HK1
  clear hw1
  have s0 : True := trivial
  cases gB with
  | false =>
    go_wp2_with (first
      | (have _t := s0; clear s0; refine wpList_ldX _ rfl _ (.tmp 1) rfl w.heap.size _ rfl b1 Try.underlying48 i14 ?_; have s1 : True := trivial)
      | (go_at_call 77; have _t := s1; clear s1; refine (kM w1 (hL.keep y1) (hG.keep y1)).mono ?_; rintro e w3 ⟨rfl, y3⟩))
    refine bodyPost_ret (results_tmp3 rfl _ _ _) rfl ?_
    exact ⟨none, 0, rfl, Ans.nil _ _, grown_trans y1 y3⟩
  | true =>
    have HO : Hid _ := HGO.out rfl
    refine wp_seq_k fun K2 hK2 => ?_
    have HK2 : Hid _ := hK2
    clear hK2
    go_wp2_with (first
      | (have _t := s0; clear s0; refine wpList_ldX _ rfl _ (.tmp 1) rfl w.heap.size _ rfl b1 Try.underlying48 i14 ?_; have s1 : True := trivial)
      | (go_at_call 77; have _t := s1; clear s1; refine (kM w1 (hL.keep y1) (hG.keep y1)).mono ?_; rintro e w3 ⟨rfl, y3⟩; have s2 : True := trivial))
    refine HK2.out _ _ ?_
    clear HK2
    have G3 := grown_trans y1 y3
    have b13 := b1.keep y3 (by simp)
    have hL3 := hL.keep G3
    have y9 : w3.cell? ⟨w.heap.size, 9, none⟩ = some (.int .i64 V.st) := b13.cell 9 (by show 9 < 14; decide)
    clear b1
    by_cases h3 : V.st = 3
    · have hle := ha_le HO.out h3
      have hs0 := HO.out.si
      have HX : Hid (whV true V = (V.nm, V.L.take V.si.toNat, 0)) := by show _ = _; unfold whV; rw [if_neg (by decide), if_pos h3]
      rw [HX.out]
      obtain ⟨k, hk⟩ : ∃ k : Nat, V.si = (k : Int) := ⟨V.si.toNat, by omega⟩
      have hk2 : V.si.toNat = k := by omega
      rw [hk2]
      have hkl : k ≤ V.L.length := by omega
      have hkl2 : (V.L.take k).length = k := by rw [List.length_take]; omega
      rw [hk] at b13
      rw [hkl2]
      have HKL : Hid _ := hkl2
      rw [h3] at y9
      clear hle hs0 HX hk hk2 h3 hkl2
      refine wp_seq_k fun K4 hK4 => ?_
      have HK4 : Hid _ := hK4
      clear hK4
      go_wp2
      try simp only [Exit.then]
      refine HK4.out _ _ ?_
      clear HK4
      clear y9
      refine wp_seq_k fun K4 hK4 => ?_
      have HK4 : Hid _ := hK4
      clear hK4
      have hR := hL3.cut hkl
      have hlc := hL3.le
      have z3 := G3.size
      have Gd := grown_drew w3 none
      have b13 := b13.keep Gd (by simp)
      have hR := hR.keep Gd
      have G3 := grown_trans G3 Gd
      refine wp_regionL (fun wz => BxS wz w.heap.size 48 #[.int .i64 V.id, .bool V.kn, .string V.nm, .int .i64 (k : Int), .bool V.en, .int .i64 V.la, .int .i64 V.su, .slice q V.G.length d, .slice a V.L.length c, .int .i64 V.st, .int .i64 V.ti, .int .i64 V.pa, .int .i64 V.tr, .int .i64 V.li]) [] #[false, false, false, false, false, false, false, false, false, false, false] rfl (by kernel_rfl) ?_
      generalize w3.drew = w4 at *
      refine wpAnyZ_take [] 0 (.pointer (some ⟨w.heap.size, 2, none⟩)) rfl (by kernel_rfl) (fun _ _ _ h => h) b13 rfl (by intro wz hz; go_simp) ?_
      try simp only [zc1, zc2, zc3, Act.put, zc4, zc5, zc6]
      refine wpAnyZ_take [] 1 (.string V.nm) rfl (by kernel_rfl) (fun _ _ _ h => h) b13 rfl (by intro wz hz; have z : wz.cell? ⟨w.heap.size, 2, none⟩ = some (.string V.nm) := hz.cell 2 (by show 2 < 14; decide); go_simp) ?_
      try simp only [zc1, zc2, zc3, Act.put, zc4, zc5, zc6]
      refine wpAnyZ_take [] 2 (.pointer (some ⟨w.heap.size, 8, none⟩)) rfl (by kernel_rfl) (fun _ _ _ h => h) b13 rfl (by intro wz hz; go_simp) ?_
      try simp only [zc1, zc2, zc3, Act.put, zc4, zc5, zc6]
      refine wpAnyZ_take [] 3 (.slice a V.L.length c) rfl (by kernel_rfl) (fun _ _ _ h => h) b13 rfl (by intro wz hz; have z : wz.cell? ⟨w.heap.size, 8, none⟩ = some (.slice a V.L.length c) := hz.cell 8 (by show 8 < 14; decide); go_simp) ?_
      try simp only [zc1, zc2, zc3, Act.put, zc4, zc5, zc6]
      refine wpAnyZ_take [] 4 (.pointer (some ⟨w.heap.size, 3, none⟩)) rfl (by kernel_rfl) (fun _ _ _ h => h) b13 rfl (by intro wz hz; go_simp) ?_
      try simp only [zc1, zc2, zc3, Act.put, zc4, zc5, zc6]
      refine wpAnyZ_take [] 5 (.int .i64 (k : Int)) rfl (by kernel_rfl) (fun _ _ _ h => h) b13 rfl (by intro wz hz; have z : wz.cell? ⟨w.heap.size, 3, none⟩ = some (.int .i64 (k : Int)) := hz.cell 3 (by show 3 < 14; decide); go_simp) ?_
      try simp only [zc1, zc2, zc3, Act.put, zc4, zc5, zc6]
      have k1 : (k : Int) ≤ (c : Int) := by omega
      have k2 : k ≤ c := by omega
      have k3 : (0 : Int) ≤ (k : Int) := by omega
      have hcn : a = none → k = 0 ∧ c = 0 := fun e => by have := hL3.nil e; omega
      refine wpAnyZ_take [] 6 (.slice a k c) rfl (by kernel_rfl) (fun _ _ _ h => h) b13 rfl (by intro wz hz; cases a with | none => obtain ⟨rfl, rfl⟩ := hcn rfl; go_simp | some ad => obtain ⟨ab, ao, ar⟩ := ad; go_simp) ?_
      try simp only [zc1, zc2, zc3, Act.put, zc4, zc5, zc6]
      clear k1 k2 k3 hcn
      refine wpAnyZ_oneB 7 rfl (by kernel_rfl) (fun KK hKK => ?_)
      go_simp
      go_at_call 57
      refine (dclone_any a k c (V.L.take k) w4 hR (by omega)).mono ?_
      rintro e w5 ⟨a5, c5, rfl, hA5, y5⟩
      dsimp only
      have S5 := b13.keep y5 (by simp)
      refine hKK _ _ (fun _ => S5) ?_
      try simp only [zc1, zc2, zc3, Act.put, zc4, zc5, zc6]
      refine wpAnyZ_take [] 8 (.string V.nm) rfl (by kernel_rfl) (fun _ _ _ h => h) S5 rfl (by intro wz hz; go_simp) ?_
      try simp only [zc1, zc2, zc3, Act.put, zc4, zc5, zc6]
      refine wpAnyZ_take [] 9 (.slice a5 k c5) rfl (by kernel_rfl) (fun _ _ _ h => h) S5 rfl (by intro wz hz; go_simp) ?_
      try simp only [zc1, zc2, zc3, Act.put, zc4, zc5, zc6]
      refine wpAnyZ_take [] 10 (.int .i64 0) rfl (by kernel_rfl) (fun _ _ _ h => h) S5 rfl (by intro wz hz; go_simp) ?_
      try simp only [zc1, zc2, zc3, Act.put, zc4, zc5, zc6]
      refine wpAnyZ_doneB (by kernel_rfl) ?_ _
      refine HK4.out _ _ ?_
      clear HK4
      go_wp2
      refine bodyPost_ret (results_tmp3 rfl _ _ _) rfl ?_
      exact ⟨a5, c5, rfl, hA5.wide G3.size, grown_trans G3 y5⟩
    · have h3b : (V.st == 3) = false := beq_eq_false_iff_ne.2 h3
      have HX : Hid (whV true V = (⟨#[]⟩, [], 7)) := by show _ = _; unfold whV; rw [if_neg (by decide), if_neg h3]
      rw [HX.out]
      clear HX h3
      go_wp2
      refine bodyPost_ret (results_tmp3 rfl _ _ _) rfl ?_
      exact ⟨none, 0, rfl, Ans.nil _ _, G3⟩
end

section
/-- is a byte in one of the spans of a list? -/
def cvL (K : List (Int × Int)) (i : Nat) : Bool := K.any (fun s => decide (s.1 ≤ (i : Int) ∧ (i : Int) < s.2))
theorem cvL_app (K J : List (Int × Int)) (i : Nat) : cvL (K ++ J) i = (cvL K i || cvL J i) := by unfold cvL; rw [List.any_append]
theorem cvL_one (p : Int × Int) (i : Nat) : cvL [p] i = decide (p.1 ≤ (i : Int) ∧ (i : Int) < p.2) := by unfold cvL; rw [List.any_cons, List.any_nil, Bool.or_false]
theorem cvL_no {K : List (Int × Int)} {i : Nat} (h : ∀ a, a ∈ K → ¬ (a.1 ≤ (i : Int) ∧ (i : Int) < a.2)) : cvL K i = false := by
  unfold cvL
  rw [List.any_eq_false]
  intro a ha
  rw [decide_eq_true_eq]
  exact h a ha
theorem cvL_yes {K : List (Int × Int)} {i : Nat} (h : cvL K i = true) : ∃ a, a ∈ K ∧ a.1 ≤ (i : Int) ∧ (i : Int) < a.2 := by
  unfold cvL at h
  obtain ⟨a, ha, h⟩ := List.any_eq_true.1 h
  exact ⟨a, ha, of_decide_eq_true h⟩
theorem giF_at {K : List (Int × Int)} {m : Nat} (h : m < K.length) : giF K m = K[m] := by
  unfold giF
  rw [List.getD_eq_getElem?_getD, List.getElem?_eq_getElem h]
  rfl
theorem cvB_take (K : List (Int × Int)) (i : Nat) : ∀ m, m ≤ K.length → cvB (giF K) i m = cvL (K.take m) i := by
  intro m
  induction m with
  | zero => intro _; rw [List.take_zero]; rfl
  | succ m ih =>
    intro h
    show (cvB (giF K) i m || decide ((giF K m).1 ≤ (i : Int) ∧ (i : Int) < (giF K m).2)) = _
    rw [ih (by omega), List.take_add_one, cvL_app, List.getElem?_eq_getElem (by omega), giF_at (by omega)]
    show _ = (cvL (K.take m) i || cvL [K[m]] i)
    rw [cvL_one]
theorem cvB_list (K : List (Int × Int)) (i : Nat) : cvB (giF K) i K.length = cvL K i := by
  rw [cvB_take K i _ (Nat.le_refl _), List.take_length]
theorem cvB_no {F : Nat → Int × Int} {i : Nat} : ∀ j, (∀ k, k < j → (F k).2 ≤ (i : Int)) → cvB F i j = false := by
  intro j
  induction j with
  | zero => intro _; rfl
  | succ j ih =>
    intro h
    show (cvB F i j || _) = false
    rw [ih (fun k hk => h k (by omega)), decide_eq_false (by have := h j (by omega); omega)]
    rfl
/-- a list of spans that rise and do not touch -/
structure RiL (K : List (Int × Int)) : Prop where
  pr : K.Pairwise (fun a b => a.2 < b.1)
  ok : ∀ a, a ∈ K → 0 ≤ a.1 ∧ a.1 < a.2
theorem RiL.nil : RiL [] := ⟨List.Pairwise.nil, fun a h => by cases h⟩
theorem RiL.snoc {K : List (Int × Int)} {s : Int × Int} (h : RiL K) (h1 : ∀ a, a ∈ K → a.2 < s.1) (h2 : 0 ≤ s.1 ∧ s.1 < s.2) : RiL (K ++ [s]) := by
  refine ⟨List.pairwise_append.2 ⟨h.pr, List.pairwise_singleton _ _, fun a ha b hb => ?_⟩, fun a ha => ?_⟩
  · rw [List.mem_singleton.1 hb]; exact h1 a ha
  · rcases List.mem_append.1 ha with ha | ha
    · exact h.ok a ha
    · rw [List.mem_singleton.1 ha]; exact h2
theorem RiL.unsnoc {K : List (Int × Int)} {s : Int × Int} (h : RiL (K ++ [s])) : RiL K ∧ (∀ a, a ∈ K → a.2 < s.1) ∧ 0 ≤ s.1 ∧ s.1 < s.2 := by
  obtain ⟨h1, _, h3⟩ := List.pairwise_append.1 h.pr
  exact ⟨⟨h1, fun a ha => h.ok a (List.mem_append_left _ ha)⟩, fun a ha => h3 a ha s (List.mem_singleton.2 rfl), h.ok s (List.mem_append_right _ (List.mem_singleton.2 rfl))⟩
theorem RiL.app {K J : List (Int × Int)} (h : RiL K) (k : RiL J) (hkj : ∀ a, a ∈ K → ∀ b, b ∈ J → a.2 < b.1) : RiL (K ++ J) :=
  ⟨List.pairwise_append.2 ⟨h.pr, k.pr, hkj⟩, fun a ha => by
    rcases List.mem_append.1 ha with ha | ha
    · exact h.ok a ha
    · exact k.ok a ha⟩
theorem RiL.rise {K : List (Int × Int)} (h : RiL K) : Rise (giF K) K.length := by
  intro j hj
  rw [giF_at hj]
  refine ⟨(h.ok _ (List.getElem_mem hj)).1, (h.ok _ (List.getElem_mem hj)).2, fun h0 => ?_⟩
  rw [giF_at (show j - 1 < K.length by omega)]
  exact List.pairwise_iff_getElem.1 h.pr (j - 1) j (by omega) hj (by omega)
/-- WHAT SPANS TELL IS TOLD AGAIN AS THEY ARE -/
theorem rw_rise : ∀ (l : Nat) (K : List (Int × Int)), K.length = l → RiL K → ∀ n : Nat, (∀ a, a ∈ K → a.2 ≤ (n : Int)) → rwN (fun i => cvL K i) true n = K := by
  intro l
  induction l with
  | zero =>
    intro K hK _ n _
    have hK : K = [] := List.eq_nil_of_length_eq_zero hK
    subst hK
    rw [rwN_skip 0 n (Nat.zero_le _) (fun i _ _ => by show cvL [] i ≠ true; rw [cvL_no (fun a ha => by cases ha)]; decide)]
    rfl
  | succ l ih =>
    intro K hK hR n hn
    rcases List.eq_nil_or_concat K with e | ⟨J, s, e⟩
    · subst e; cases hK
    · rw [List.concat_eq_append] at e
      subst e
      obtain ⟨hJ, hs, h0, h1⟩ := hR.unsnoc
      obtain ⟨p, r⟩ := s
      obtain ⟨s0, rfl⟩ : ∃ s0 : Nat, p = (s0 : Int) := ⟨p.toNat, by have : 0 ≤ p := h0; omega⟩
      obtain ⟨s1, rfl⟩ : ∃ s1 : Nat, r = (s1 : Int) := ⟨r.toNat, by have : (s0 : Int) < r := h1; omega⟩
      have h1 : (s0 : Int) < (s1 : Int) := h1
      have hsn : (s1 : Int) ≤ (n : Int) := hn _ (List.mem_append_right _ (List.mem_singleton.2 rfl))
      have hJl : J.length = l := by rw [List.length_append] at hK; have : J.length + 1 = l + 1 := hK; omega
      have hs : ∀ a, a ∈ J → a.2 < (s0 : Int) := hs
      have A : rwN (fun i => cvL (J ++ [((s0 : Int), (s1 : Int))]) i) true s0 = J := by
        rw [rwN_cong (b' := fun i => cvL J i) s0 (fun i hi => by
          show cvL (J ++ [((s0 : Int), (s1 : Int))]) i = cvL J i
          rw [cvL_app, cvL_one, decide_eq_false (by show ¬ ((s0 : Int) ≤ (i : Int) ∧ (i : Int) < (s1 : Int)); omega), Bool.or_false])]
        exact ih J hJl hJ s0 (fun a ha => by have := hs a ha; omega)
      rw [rwN_skip s1 n (by omega) (fun i h2 h3 => by
        show cvL (J ++ [((s0 : Int), (s1 : Int))]) i ≠ true
        rw [cvL_app, cvL_one, decide_eq_false (by show ¬ ((s0 : Int) ≤ (i : Int) ∧ (i : Int) < (s1 : Int)); omega), cvL_no (fun a ha => by have := hs a ha; omega)]
        decide)]
      rw [rwN_row s0 (fun p hp => by
        rw [A] at hp
        have := hs p (List.mem_of_getLast? hp)
        omega) s1 (by omega) (fun i h2 h3 => by
        show cvL (J ++ [((s0 : Int), (s1 : Int))]) i = true
        rw [cvL_app, cvL_one, decide_eq_true (by show (s0 : Int) ≤ (i : Int) ∧ (i : Int) < (s1 : Int); omega), Bool.or_true]), A]
/-- one span more: what lies below it, what it has become, what lies above it -/
def wiS (F : Nat → Int × Int) (x y : Int) : Nat → List (Int × Int) × (Int × Int) × List (Int × Int)
  | 0 => ([], (x, y), [])
  | j + 1 => if (F j).2 < (wiS F x y j).2.1.1 then ((wiS F x y j).1 ++ [F j], (wiS F x y j).2.1, (wiS F x y j).2.2)
    else if (wiS F x y j).2.1.2 < (F j).1 then ((wiS F x y j).1, (wiS F x y j).2.1, (wiS F x y j).2.2 ++ [F j])
    else ((wiS F x y j).1, (minI (F j).1 (wiS F x y j).2.1.1, maxI (F j).2 (wiS F x y j).2.1.2), (wiS F x y j).2.2)
def wiL (F : Nat → Int × Int) (x y : Int) (m : Nat) : List (Int × Int) := (wiS F x y m).1 ++ [(wiS F x y m).2.1] ++ (wiS F x y m).2.2
structure WI (F : Nat → Int × Int) (x y : Int) (m j : Nat) (s : List (Int × Int) × (Int × Int) × List (Int × Int)) : Prop where
  lo : RiL s.1
  hi : RiL s.2.2
  lp : ∀ u, u ∈ s.1 → u.2 < s.2.1.1
  hp : ∀ u, u ∈ s.2.2 → s.2.1.2 < u.1
  pr : 0 ≤ s.2.1.1 ∧ s.2.1.1 < s.2.1.2
  nl : ∀ u, u ∈ s.1 → ∀ k, j ≤ k → k < m → u.2 < (F k).1
  nh : ∀ u, u ∈ s.2.2 → ∀ k, j ≤ k → k < m → u.2 < (F k).1
  cv : ∀ i : Nat, (cvL s.1 i || decide (s.2.1.1 ≤ (i : Int) ∧ (i : Int) < s.2.1.2) || cvL s.2.2 i) = (cvB F i j || decide (x ≤ (i : Int) ∧ (i : Int) < y))
  ln : s.1.length + s.2.2.length ≤ j
  bl : ∀ E : Int, (∀ k, k < j → (F k).2 ≤ E) → y ≤ E → (∀ u, u ∈ s.1 → u.2 ≤ E) ∧ s.2.1.2 ≤ E ∧ ∀ u, u ∈ s.2.2 → u.2 ≤ E
theorem mm_or (a b p r : Int) (i : Int) (h1 : p < r) (h2 : a < b) (h3 : p ≤ b) (h4 : a ≤ r) : decide (minI a p ≤ i ∧ i < maxI b r) = (decide (p ≤ i ∧ i < r) || decide (a ≤ i ∧ i < b)) := by
  rw [Bool.eq_iff_iff, Bool.or_eq_true, decide_eq_true_eq, decide_eq_true_eq, decide_eq_true_eq]
  unfold minI maxI
  by_cases e1 : a ≤ p
  · rw [if_pos e1]
    by_cases e2 : b ≤ r
    · rw [if_pos e2]; omega
    · rw [if_neg e2]; omega
  · rw [if_neg e1]
    by_cases e2 : b ≤ r
    · rw [if_pos e2]; omega
    · rw [if_neg e2]; omega
theorem rise_mid {F : Nat → Int × Int} {m : Nat} (h : Rise F m) {j k : Nat} (h1 : j < k) (h2 : k < m) : (F j).2 < (F k).1 :=
  rise_lt (n := k) (fun i hi => h i (by omega)) j h1
theorem WI.step {F : Nat → Int × Int} {x y : Int} {m j : Nat} (h : WI F x y m j (wiS F x y j)) (hR : Rise F m) (hj : j < m) : WI F x y m (j + 1) (wiS F x y (j + 1)) := by
  show WI F x y m (j + 1) (if (F j).2 < (wiS F x y j).2.1.1 then _ else if (wiS F x y j).2.1.2 < (F j).1 then _ else _)
  generalize wiS F x y j = s at h
  obtain ⟨lo, ⟨p, r⟩, hi⟩ := s
  obtain ⟨k1, k2, _⟩ := hR j hj
  have hpr := h.pr
  dsimp only at hpr ⊢
  have hcb : ∀ i : Nat, cvB F i (j + 1) = (cvB F i j || decide ((F j).1 ≤ (i : Int) ∧ (i : Int) < (F j).2)) := fun i => rfl
  have hnl : ∀ k, j + 1 ≤ k → k < m → (F j).2 < (F k).1 := fun k h1 h2 => rise_mid hR (by omega) h2
  by_cases e1 : (F j).2 < p
  · rw [if_pos e1]
    refine ⟨h.lo.snoc (fun a ha => h.nl a ha j (Nat.le_refl _) hj) ⟨k1, k2⟩, h.hi, fun u hu => ?_, h.hp, hpr, fun u hu k h1 h2 => ?_, fun u hu k h1 h2 => h.nh u hu k (by omega) h2, fun i => ?_, ?_, fun E h1 h2 => ?_⟩
    · rcases List.mem_append.1 hu with hu | hu
      · exact h.lp u hu
      · rw [List.mem_singleton.1 hu]; exact e1
    · rcases List.mem_append.1 hu with hu | hu
      · exact h.nl u hu k (by omega) h2
      · rw [List.mem_singleton.1 hu]; exact hnl k h1 h2
    · have := h.cv i
      dsimp only at this ⊢
      rw [cvL_app, cvL_one, hcb]
      revert this
      generalize cvL lo i = b1
      generalize cvL hi i = b2
      generalize cvB F i j = b3
      generalize decide (p ≤ (i : Int) ∧ (i : Int) < r) = b4
      generalize decide (x ≤ (i : Int) ∧ (i : Int) < y) = b5
      generalize decide ((F j).1 ≤ (i : Int) ∧ (i : Int) < (F j).2) = b6
      revert b1 b2 b3 b4 b5 b6
      decide
    · have := h.ln
      dsimp only at this ⊢
      rw [List.length_append]
      show lo.length + 1 + hi.length ≤ j + 1
      omega
    · obtain ⟨q1, q2, q3⟩ := h.bl E (fun k hk => h1 k (by omega)) h2
      refine ⟨fun u hu => ?_, q2, q3⟩
      rcases List.mem_append.1 hu with hu | hu
      · exact q1 u hu
      · rw [List.mem_singleton.1 hu]; exact h1 j (by omega)
  · rw [if_neg e1]
    by_cases e2 : r < (F j).1
    · rw [if_pos e2]
      refine ⟨h.lo, h.hi.snoc (fun a ha => h.nh a ha j (Nat.le_refl _) hj) ⟨k1, k2⟩, h.lp, fun u hu => ?_, hpr, fun u hu k h1 h2 => h.nl u hu k (by omega) h2, fun u hu k h1 h2 => ?_, fun i => ?_, ?_, fun E h1 h2 => ?_⟩
      · rcases List.mem_append.1 hu with hu | hu
        · exact h.hp u hu
        · rw [List.mem_singleton.1 hu]; exact e2
      · rcases List.mem_append.1 hu with hu | hu
        · exact h.nh u hu k (by omega) h2
        · rw [List.mem_singleton.1 hu]; exact hnl k h1 h2
      · have := h.cv i
        dsimp only at this ⊢
        rw [cvL_app, cvL_one, hcb]
        revert this
        generalize cvL lo i = b1
        generalize cvL hi i = b2
        generalize cvB F i j = b3
        generalize decide (p ≤ (i : Int) ∧ (i : Int) < r) = b4
        generalize decide (x ≤ (i : Int) ∧ (i : Int) < y) = b5
        generalize decide ((F j).1 ≤ (i : Int) ∧ (i : Int) < (F j).2) = b6
        revert b1 b2 b3 b4 b5 b6
        decide
      · have := h.ln
        dsimp only at this ⊢
        rw [List.length_append]
        show lo.length + (hi.length + 1) ≤ j + 1
        omega
      · obtain ⟨q1, q2, q3⟩ := h.bl E (fun k hk => h1 k (by omega)) h2
        refine ⟨q1, q2, fun u hu => ?_⟩
        rcases List.mem_append.1 hu with hu | hu
        · exact q3 u hu
        · rw [List.mem_singleton.1 hu]; exact h1 j (by omega)
    · rw [if_neg e2]
      have hmn : minI (F j).1 p ≤ p ∧ minI (F j).1 p ≤ (F j).1 ∧ (minI (F j).1 p = p ∨ minI (F j).1 p = (F j).1) := by unfold minI; by_cases e : (F j).1 ≤ p; (rw [if_pos e]; omega); (rw [if_neg e]; omega)
      have hmx : r ≤ maxI (F j).2 r ∧ (F j).2 ≤ maxI (F j).2 r ∧ (maxI (F j).2 r = r ∨ maxI (F j).2 r = (F j).2) := by unfold maxI; by_cases e : (F j).2 ≤ r; (rw [if_pos e]; omega); (rw [if_neg e]; omega)
      have hh : ∀ u, u ∈ hi → False := fun u hu => by
        have h1 := h.hp u hu
        have h2 := h.nh u hu j (Nat.le_refl _) hj
        have h3 := h.hi.ok u hu
        dsimp only at h1 h2 h3
        omega
      refine ⟨h.lo, h.hi, fun u hu => ?_, fun u hu => (hh u hu).elim, ⟨?_, ?_⟩, fun u hu k h1 h2 => h.nl u hu k (by omega) h2, fun u hu k h1 h2 => h.nh u hu k (by omega) h2, fun i => ?_, ?_, fun E h1 h2 => ?_⟩
      · have h1 := h.lp u hu
        have h2 := h.nl u hu j (Nat.le_refl _) hj
        dsimp only at h1 h2 ⊢
        omega
      · show 0 ≤ minI (F j).1 p
        omega
      · show minI (F j).1 p < maxI (F j).2 r
        omega
      · have := h.cv i
        dsimp only at this ⊢
        rw [mm_or _ _ _ _ _ hpr.2 k2 (by omega) (by omega), hcb]
        revert this
        generalize cvL lo i = b1
        generalize cvL hi i = b2
        generalize cvB F i j = b3
        generalize decide (p ≤ (i : Int) ∧ (i : Int) < r) = b4
        generalize decide (x ≤ (i : Int) ∧ (i : Int) < y) = b5
        generalize decide ((F j).1 ≤ (i : Int) ∧ (i : Int) < (F j).2) = b6
        revert b1 b2 b3 b4 b5 b6
        decide
      · have := h.ln
        dsimp only at this ⊢
        omega
      · obtain ⟨q1, q2, q3⟩ := h.bl E (fun k hk => h1 k (by omega)) h2
        have := h1 j (by omega)
        exact ⟨q1, by show maxI (F j).2 r ≤ E; dsimp only at q2; omega, q3⟩
theorem wi_all {F : Nat → Int × Int} {x y : Int} {m : Nat} (hR : Rise F m) (hx : 0 ≤ x) (hy : x < y) : ∀ j, j ≤ m → WI F x y m j (wiS F x y j) := by
  intro j
  induction j with
  | zero =>
    intro _
    refine ⟨RiL.nil, RiL.nil, (fun u hu => by cases hu), (fun u hu => by cases hu), ⟨hx, hy⟩, (fun u hu => by cases hu), (fun u hu => by cases hu), fun i => ?_, Nat.le_refl _, fun E _ h2 => ⟨(fun u hu => by cases hu), h2, (fun u hu => by cases hu)⟩⟩
    show (cvL [] i || decide (x ≤ (i : Int) ∧ (i : Int) < y) || cvL [] i) = (false || decide (x ≤ (i : Int) ∧ (i : Int) < y))
    rw [cvL_no (fun a ha => by cases ha), Bool.or_false]
  | succ j ih => intro h; exact (ih (by omega)).step hR (by omega)
/-- WITH ONE SPAN MORE: WHAT THE CODE JOINS IS WHAT THE DOCUMENT COUNTS -/
theorem wi_rows {F : Nat → Int × Int} {x y : Int} {m : Nat} (hR : Rise F m) (hx : 0 ≤ x) (hy : x < y) (n : Nat) (hn : ∀ k, k < m → (F k).2 ≤ (n : Int)) (hyn : y ≤ (n : Int)) :
    rwN (fun i => cvB F i m || decide (x ≤ (i : Int) ∧ (i : Int) < y)) true n = wiL F x y m ∧ RiL (wiL F x y m) ∧ (wiL F x y m).length ≤ m + 1 ∧ (∀ u, u ∈ wiL F x y m → u.2 ≤ (n : Int)) ∧ ∀ i, cvL (wiL F x y m) i = (cvB F i m || decide (x ≤ (i : Int) ∧ (i : Int) < y)) := by
  have h := wi_all hR hx hy m (Nat.le_refl _)
  have hcv : ∀ i, cvL (wiL F x y m) i = (cvB F i m || decide (x ≤ (i : Int) ∧ (i : Int) < y)) := fun i => by
    unfold wiL
    rw [cvL_app, cvL_app, cvL_one]
    exact h.cv i
  have hri : RiL (wiL F x y m) := by
    unfold wiL
    refine (h.lo.snoc h.lp h.pr).app h.hi (fun a ha b hb => ?_)
    have h1 := h.hp b hb
    rcases List.mem_append.1 ha with ha | ha
    · have h2 := h.lp a ha
      have h3 := h.pr
      omega
    · rw [List.mem_singleton.1 ha]; exact h1
  obtain ⟨q1, q2, q3⟩ := h.bl (n : Int) hn hyn
  have hbl : ∀ u, u ∈ wiL F x y m → u.2 ≤ (n : Int) := fun u hu => by
    unfold wiL at hu
    rcases List.mem_append.1 hu with hu | hu
    · rcases List.mem_append.1 hu with hu | hu
      · exact q1 u hu
      · rw [List.mem_singleton.1 hu]; exact q2
    · exact q3 u hu
  refine ⟨?_, hri, ?_, hbl, hcv⟩
  · rw [rwN_cong (b' := fun i => cvL (wiL F x y m) i) n (fun i _ => (hcv i).symm)]
    exact rw_rise _ _ rfl hri n hbl
  · have := h.ln
    unfold wiL
    rw [List.length_append, List.length_append]
    show (wiS F x y m).1.length + 1 + (wiS F x y m).2.2.length ≤ m + 1
    omega
theorem unA_ge {F : Nat → Int × Int} {lo : Int} : ∀ j, lo ≤ uqA F lo j ∧ ∀ k, k < j → (F k).2 ≤ uqA F lo j := by
  intro j
  induction j with
  | zero => exact ⟨Int.le_refl _, fun k hk => by omega⟩
  | succ j ih =>
    have hmx : uqA F lo j ≤ maxI (uqA F lo j) (F j).2 ∧ (F j).2 ≤ maxI (uqA F lo j) (F j).2 := by unfold maxI; by_cases e : uqA F lo j ≤ (F j).2; (rw [if_pos e]; omega); (rw [if_neg e]; omega)
    show lo ≤ maxI (uqA F lo j) (F j).2 ∧ ∀ k, k < j + 1 → (F k).2 ≤ maxI (uqA F lo j) (F j).2
    refine ⟨by omega, fun k hk => ?_⟩
    by_cases e : k = j
    · subst e; exact hmx.2
    · have := ih.2 k (by omega); omega
theorem unA_nx {F : Nat → Int × Int} {lo : Int} {m : Nat} (hR : Rise F m) : ∀ j, j < m → uqA F lo j = lo ∨ uqA F lo j < (F j).1 := by
  intro j
  induction j with
  | zero => intro _; exact .inl rfl
  | succ j ih =>
    intro h
    have h1 := rise_mid hR (show j < j + 1 by omega) h
    obtain ⟨k1, k2, _⟩ := hR j (by omega)
    show maxI (uqA F lo j) (F j).2 = lo ∨ maxI (uqA F lo j) (F j).2 < (F (j + 1)).1
    unfold maxI
    by_cases e : uqA F lo j ≤ (F j).2
    · rw [if_pos e]; exact .inr h1
    · rw [if_neg e]
      rcases ih (by omega) with h2 | h2
      · exact .inl h2
      · exact .inr (by omega)
theorem un_cov {F : Nat → Int × Int} {lo hi : Int} {m : Nat} (hR : Rise F m) (i : Nat) : ∀ j, j ≤ m → cvL (uqL F lo hi j) i = (decide (lo ≤ (i : Int) ∧ (i : Int) < hi ∧ (i : Int) < uqA F lo j) && !cvB F i j) := by
  intro j
  induction j with
  | zero =>
    intro _
    show cvL [] i = (decide (lo ≤ (i : Int) ∧ (i : Int) < hi ∧ (i : Int) < lo) && _)
    rw [cvL_no (fun a ha => by cases ha), decide_eq_false (by omega), Bool.false_and]
  | succ j ih =>
    intro h
    have ih := ih (by omega)
    obtain ⟨k1, k2, _⟩ := hR j (by omega)
    have hge := unA_ge (F := F) (lo := lo) j
    have hnx := unA_nx (F := F) (lo := lo) hR j (by omega)
    have hcb : cvB F i (j + 1) = (cvB F i j || decide ((F j).1 ≤ (i : Int) ∧ (i : Int) < (F j).2)) := rfl
    have hAA : uqA F lo (j + 1) = maxI (uqA F lo j) (F j).2 := rfl
    have hcn : uqA F lo j ≤ (i : Int) → cvB F i j = false := fun e => cvB_no j (fun k hk => by have := hge.2 k hk; omega)
    show cvL (if uqA F lo j < minI (F j).1 hi then uqL F lo hi j ++ [(uqA F lo j, minI (F j).1 hi)] else uqL F lo hi j) i = _
    rw [hcb, hAA]
    generalize uqA F lo j = A at *
    have e3 : cvL (if A < minI (F j).1 hi then uqL F lo hi j ++ [(A, minI (F j).1 hi)] else uqL F lo hi j) i = (cvL (uqL F lo hi j) i || decide (A ≤ (i : Int) ∧ (i : Int) < minI (F j).1 hi)) := by
      by_cases e : A < minI (F j).1 hi
      · rw [if_pos e, cvL_app, cvL_one]
      · rw [if_neg e, decide_eq_false (by omega), Bool.or_false]
    rw [e3, ih]
    by_cases hA : A ≤ (i : Int)
    · rw [hcn hA, decide_eq_false (show ¬ (lo ≤ (i : Int) ∧ (i : Int) < hi ∧ (i : Int) < A) by omega), Bool.eq_iff_iff]
      simp only [Bool.false_and, Bool.false_or, Bool.and_eq_true, decide_eq_true_eq, Bool.not_eq_true', decide_eq_false_iff_not]
      unfold minI maxI
      by_cases e1 : (F j).1 ≤ hi
      · rw [if_pos e1]
        by_cases e2 : A ≤ (F j).2
        · rw [if_pos e2]; omega
        · rw [if_neg e2]; omega
      · rw [if_neg e1]
        by_cases e2 : A ≤ (F j).2
        · rw [if_pos e2]; omega
        · rw [if_neg e2]; omega
    · rw [decide_eq_false (show ¬ (A ≤ (i : Int) ∧ (i : Int) < minI (F j).1 hi) by omega), Bool.or_false, Bool.eq_iff_iff]
      simp only [Bool.and_eq_true, decide_eq_true_eq, Bool.not_eq_true', Bool.or_eq_false_iff, decide_eq_false_iff_not]
      have hm : (i : Int) < maxI A (F j).2 := by unfold maxI; by_cases e2 : A ≤ (F j).2; (rw [if_pos e2]; omega); (rw [if_neg e2]; omega)
      constructor
      · rintro ⟨⟨a1, a2, a3⟩, a4⟩
        exact ⟨⟨a1, a2, hm⟩, a4, by omega⟩
      · rintro ⟨⟨a1, a2, a3⟩, a4, a5⟩
        exact ⟨⟨a1, a2, by omega⟩, a4⟩
/-- WHAT IS LEFT OF A SPAN IS WHAT HAS NOT COME OF IT -/
theorem unF_cov {F : Nat → Int × Int} {lo hi : Int} {m : Nat} (hR : Rise F m) (i : Nat) : cvL (uqF F lo hi m) i = (decide (lo ≤ (i : Int) ∧ (i : Int) < hi) && !cvB F i m) := by
  have hge := unA_ge (F := F) (lo := lo) m
  have hcn : uqA F lo m ≤ (i : Int) → cvB F i m = false := fun e => cvB_no m (fun k hk => by have := hge.2 k hk; omega)
  have e3 : cvL (uqF F lo hi m) i = (cvL (uqL F lo hi m) i || decide (uqA F lo m ≤ (i : Int) ∧ (i : Int) < hi)) := by
    unfold uqF
    by_cases e : uqA F lo m < hi
    · rw [if_pos e, cvL_app, cvL_one]
    · rw [if_neg e, decide_eq_false (by omega), Bool.or_false]
  rw [e3, un_cov hR i m (Nat.le_refl _)]
  generalize uqA F lo m = A at *
  by_cases hA : A ≤ (i : Int)
  · rw [hcn hA, Bool.eq_iff_iff]
    simp only [Bool.or_eq_true, Bool.and_eq_true, decide_eq_true_eq, Bool.not_false, and_true]
    omega
  · rw [decide_eq_false (show ¬ (A ≤ (i : Int) ∧ (i : Int) < hi) by omega), Bool.or_false, Bool.eq_iff_iff]
    simp only [Bool.and_eq_true, decide_eq_true_eq]
    constructor
    · rintro ⟨⟨a1, a2, a3⟩, a4⟩
      exact ⟨⟨a1, a2⟩, a4⟩
    · rintro ⟨⟨a1, a2⟩, a4⟩
      exact ⟨⟨a1, a2, by omega⟩, a4⟩
theorem unL_in {F : Nat → Int × Int} {lo hi : Int} : ∀ n p, p ∈ uqL F lo hi n → lo ≤ p.1 ∧ p.1 < p.2 ∧ p.2 ≤ hi := by
  intro n
  induction n with
  | zero => intro p hp; cases hp
  | succ n ih =>
    intro p hp
    have hp : p ∈ (if uqA F lo n < minI (F n).1 hi then uqL F lo hi n ++ [(uqA F lo n, minI (F n).1 hi)] else uqL F lo hi n) := hp
    by_cases e : uqA F lo n < minI (F n).1 hi
    · rw [if_pos e] at hp
      rcases List.mem_append.1 hp with hp | hp
      · exact ih p hp
      · rw [List.mem_singleton.1 hp]
        refine ⟨(unA_ge n).1, e, ?_⟩
        show minI (F n).1 hi ≤ hi
        unfold minI
        by_cases e2 : (F n).1 ≤ hi
        · rw [if_pos e2]; exact e2
        · rw [if_neg e2]; omega
    · rw [if_neg e] at hp; exact ih p hp
theorem unF_in {F : Nat → Int × Int} {lo hi : Int} {n : Nat} : ∀ p, p ∈ uqF F lo hi n → lo ≤ p.1 ∧ p.1 < p.2 ∧ p.2 ≤ hi := by
  intro p hp
  unfold uqF at hp
  by_cases e : uqA F lo n < hi
  · rw [if_pos e] at hp
    rcases List.mem_append.1 hp with hp | hp
    · exact unL_in n p hp
    · rw [List.mem_singleton.1 hp]
      exact ⟨(unA_ge n).1, e, Int.le_refl _⟩
  · rw [if_neg e] at hp; exact unL_in n p hp
end

section
theorem zeros_d8 (k : Nat) : (Builtin.zeroCells (Value.int .u8 0).cells k).toList = bys (List.replicate k 0) := by
  rw [← bys_zero]
  have e : (Value.int .u8 0).cells = #[Value.int .u8 0] := rfl
  rw [e]
  unfold Builtin.zeroCells
  simp [Nat.mod_one]
  exact List.eq_replicate_iff.2 ⟨by simp, fun b hb => by simp at hb; exact hb.2.symm⟩
/-- 'append(v, make([]byte, k)...)', v the call's own -/
theorem run_apZd (w : World) (ty : TypeId) (v : Value) (n k : Nat) (L : List Nat) (hown : w.ownsRow 0 5 1 v n (bys L)) (hk : 0 < k) (hb : n + k ≤ 100000) :
    ∃ g cap w', (Builtin.append_ #[23, 3] ty #[v, .int .i64 (k : Int)]).run Try.prog w = .ok (.slice (some ⟨g, 0, none⟩) (n + k) cap) w' ∧
      (v.ownBlock = some g ∨ w.heap.size ≤ g) ∧ w.grownBy w' v.ownBlock ∧ w'.ownsRow 0 5 1 (.slice (some ⟨g, 0, none⟩) (n + k) cap) (n + k) (bys (L ++ List.replicate k 0)) := by
  obtain ⟨i0, hi, hz, hsz, hby⟩ := info_parts Try.info_u8
  have hLn : L.length = n := by have := hown.1; rw [bys_length] at this; omega
  have hw : IntKind.i64.wrap (k : Int) = k := by rw [IntKind.wrap_i64]; omega
  have hneg : ¬ ((k : Int) < 0) := by omega
  have h48i : ¬ (281474976710656 < (k : Int) * (i0.bytes : Int)) := by rw [hby]; omega
  have hns : ¬ (k * i0.size = 0) := by rw [hsz]; omega
  have hlen : (bys (L ++ List.replicate k 0)).length = (n + k) * 1 := by rw [bys_length, List.length_append, List.length_replicate, hLn]; omega
  have hap : bys (L ++ List.replicate k 0) = bys L ++ bys (List.replicate k 0) := by simp [bys]
  rcases hown.2 with ⟨rfl, h0⟩ | ⟨g, cap, cur, rfl, hbg, hg, hnc, hcm, hcs, htake⟩
  · subst h0
    have hL0 : L = [] := List.eq_nil_of_length_eq_zero hLn
    subst hL0
    have hr := Lib.run_append_nil_zeros (P := Try.prog) w 23 3 ty 5 i0 (.int .u8 0) .i64 .i64 Try.underlying23 Try.underlying3 hi hz k hk (by omega) (by omega) (by rw [hby]; omega)
    have hge := grownCap_ge w k 0 5
    rw [Nat.zero_add]
    rw [Nat.zero_add] at hlen
    refine ⟨_, _, _, hr, .inr (Nat.le_refl _), ⟨rfl, rfl, rfl, by simp, fun j hj _ => (World.grownBy_alloc w.drew _ none).block j hj (by simp)⟩, ⟨hlen, .inr ⟨w.heap.size, _, _, rfl, Nat.zero_le _, heap_alloc_new w.drew _, hge, grownCap_le_maxLen w k 0 5 (by unfold maxLen; omega), ?_, ?_⟩⟩⟩
    · simp only [Array.size_append, size_zeroCells]
      show k * 1 + _ * 1 = _
      omega
    · simp only [Array.toList_append, zeros_d8]
      rw [← hlen, List.nil_append]
      exact List.take_left
  · by_cases hroom : n + k ≤ cap
    · have hfit : n * i0.size + (bys (List.replicate k 0)).length ≤ cur.size := by rw [bys_length, List.length_replicate, hsz, hcs]; omega
      have hst := run_storeCells_at Try.prog g (n * i0.size) 5 (bys (List.replicate k 0)) 0 cur w hg (by simpa using hfit) (bys_one _)
      simp only [Nat.add_zero] at hst
      have hr : (Builtin.append_ #[23, 3] ty #[.slice (some ⟨g, 0, none⟩) n cap, .int .i64 (k : Int)]).run Try.prog w = .ok (.slice (some ⟨g, 0, none⟩) (n + k) cap) (w.setRow g (cur.toList.take (n * i0.size) ++ bys (List.replicate k 0) ++ cur.toList.drop (n * i0.size + (bys (List.replicate k 0)).length)).toArray) := by
        simp [Builtin.append_, run_underlying Try.underlying23, run_underlying Try.underlying3, sizeOf, typeInfo, zeroValue, hi, hz, asInt, asIntOf, hw, hneg, h48i, hns, hroom, Addr.add_lit, zeros_d8, hst]
      refine ⟨g, cap, _, hr, .inl rfl, ⟨rfl, rfl, rfl, by simp, fun j _ hj => setRow_other w g j _ (fun e => hj (by simp [Value.ownBlock, e]))⟩, ⟨hlen, .inr ⟨g, cap, _, rfl, hbg, setRow_heap w g cur _ 5 _ hg, hroom, hcm, ?_, ?_⟩⟩⟩
      · simp only [List.size_toArray, List.length_append, List.length_take, List.length_drop, Array.length_toList, bys_length, List.length_replicate]
        rw [hsz]
        omega
      · rw [hsz, htake, ← hap, ← hlen]
        exact List.take_left
    · have holds : ∀ j u, (bys L)[j]? = some u → w.drew.cell? ((⟨g, 0, none⟩ : Addr).add j) = some u := fun j u h => hown.cells (g := g) rfl j u h
      have hf := run_firstCells_some (P := Try.prog) w.drew i0.size n ⟨g, 0, none⟩ n cap (bys L) (by rw [bys_length, hLn, hsz]; omega) holds
      have hfits : Builtin.nextslicecap (n + k) cap * i0.bytes ≤ 281474976710656 := growslice_fits (by omega) (by rw [hby]; omega)
      have hr := Lib.run_append_grow_zeros (P := Try.prog) w 23 3 ty 5 i0 (.int .u8 0) .i64 .i64 Try.underlying23 Try.underlying3 hi hz (some ⟨g, 0, none⟩) n cap (bys L) hf k hk (by omega) (by omega) (by omega) (by rw [hby]; omega) hfits
      have hge := grownCap_ge w (n + k) cap 5
      refine ⟨_, _, _, hr, .inr (Nat.le_refl _), ⟨rfl, rfl, rfl, by simp, fun j hj _ => (World.grownBy_alloc w.drew _ none).block j hj (by simp)⟩, ⟨hlen, .inr ⟨w.heap.size, _, _, rfl, Nat.zero_le _, heap_alloc_new w.drew _, hge, grownCap_le_maxLen w (n + k) cap 5 (by unfold maxLen; omega), ?_, ?_⟩⟩⟩
      · simp only [Array.size_append, List.size_toArray, size_zeroCells, bys_length, hLn]
        show n + k * 1 + _ * 1 = _
        omega
      · simp only [Array.toList_append, zeros_d8]
        rw [← hap, ← hlen]
        exact List.take_left
theorem isB_zerD {L : List Nat} (h : IsB L) (k : Nat) : IsB (L ++ List.replicate k 0) := by
  intro x hx
  rcases List.mem_append.1 hx with hx | hx
  · exact h x hx
  · rw [(List.mem_replicate.1 hx).2]; decide
theorem wpList_apZd (w : World) {ops : Array Oper} {rest : List Oper} {o : Oper} {a : Act} {Q : Exit → Act → World → Prop} (hg : o.guard = none) (s x : Operand)
    (hop : o.op = Op.call { callee := .builtin .append, args := #[s, x], argTypes := #[23, 3] }) (ad : Option Addr) (n c k lo : Nat) (L : List Nat) (hs : a.eval s = .slice ad n c) (hx : a.eval x = .int .i64 (k : Int))
    (hA : Ans w lo ad n c L) (hlo : lo ≤ w.heap.size) (hk : 0 < k) (hb : n + k ≤ 100000)
    (hK : ∀ a' c' w', Ans w' lo a' (n + k) c' (L ++ List.replicate k 0) → w.grownBy w' (Value.slice ad n c).ownBlock → (∀ z, (Value.slice a' (n + k) c').ownBlock = some z → (Value.slice ad n c).ownBlock = some z ∨ w.heap.size ≤ z) → wpList Try.prog ops Q rest (a.put o.dst (.slice a' (n + k) c')) w') :
    wpList Try.prog ops Q (o :: rest) a w := by
  obtain ⟨g, cap, w', hr, h1, h2, h3⟩ := run_apZd w o.type (.slice ad n c) n k L hA.own hk hb
  refine Lib.wpList_append_run w hg s x 23 3 hop _ _ hs hx _ w' hr (hK (some ⟨g, 0, none⟩) cap w' ⟨h3, isB_zerD hA.byte k, fun z e => ?_⟩ h2 (fun z e => ?_))
  · have e : g = z := Option.some.inj e
    subst e
    rcases h1 with h1 | h1
    · exact hA.new _ h1
    · omega
  · have e : g = z := Option.some.inj e
    subst e
    exact h1
/-- bytes laid over others -/
def splN (L : List Nat) (off : Nat) (D : List Nat) : List Nat := L.take off ++ (D ++ L.drop (off + D.length))
theorem splN_len {L : List Nat} {off : Nat} {D : List Nat} (h : off + D.length ≤ L.length) : (splN L off D).length = L.length := by
  unfold splN
  rw [List.length_append, List.length_append, List.length_take, List.length_drop]
  omega
theorem splN_nth {L : List Nat} {off : Nat} {D : List Nat} (h : off + D.length ≤ L.length) (i : Nat) : nth (splN L off D) i = if off ≤ i ∧ i < off + D.length then nth D (i - off) else nth L i := by
  unfold nth splN
  simp only [List.getD_eq_getElem?_getD]
  have hl : (L.take off).length = off := by rw [List.length_take]; omega
  by_cases h1 : i < off
  · rw [if_neg (by omega), List.getElem?_append_left (by omega), List.getElem?_take_of_lt h1]
  · rw [List.getElem?_append_right (by omega), hl]
    by_cases h2 : i < off + D.length
    · rw [if_pos (by omega), List.getElem?_append_left (by omega)]
    · rw [if_neg (by omega), List.getElem?_append_right (by omega), List.getElem?_drop]
      congr 2
      omega
theorem rd_news2 {w : World} {b off n cap : Nat} {L : List Nat} (h : Rd w (some ⟨b, off, none⟩) n cap L) (j : Nat) (u : Value) (hu : (bys L)[j]? = some u) : w.cell? ((⟨b, off, none⟩ : Addr).add j) = some u := by
  have hj : j < L.length := by have := (List.getElem?_eq_some_iff.1 hu).1; rwa [bys_length] at this
  have hl := h.len
  obtain ⟨b', off', e, hb, hc⟩ := h.at' (by omega)
  cases e
  rw [addr_add, hc j (by omega), ← hu, nth_bys L j hj]
theorem wpList_cpA {w : World} {ops : Array Oper} {rest : List Oper} {o : Oper} {a : Act} {Q : Exit → Act → World → Prop} (hgd : o.guard = none) (d s : Operand)
    (hop : o.op = Op.call { callee := .builtin .copy, args := #[d, s], argTypes := #[23, 23] }) (g n c lo : Nat) (L : List Nat) (hA : Ans w lo (some ⟨g, 0, none⟩) n c L)
    (dp : Option Addr) (dl dc : Nat) (hd : a.eval d = .slice dp dl dc) (sp : Option Addr) (sl sc : Nat) (D : List Nat) (hs : a.eval s = .slice sp sl sc) (hS : Rd w sp sl sc D)
    (off k : Nat) (hk : k = min sl dl) (hpos : 0 < k → dp = some ⟨g, off, none⟩) (hfit : off + k ≤ n)
    (hK : ∀ w', Ans w' lo (some ⟨g, 0, none⟩) n c (splN L off (D.take k)) → w.grownBy w' (some g) → wpList Try.prog ops Q rest (a.put o.dst (.int .i64 (k : Int))) w') :
    wpList Try.prog ops Q (o :: rest) a w := by
  have hi1 : (Try.prog.info? 5).map (·.size) = some 1 := by
    obtain ⟨i0, hi, hz, hsz, hby⟩ := info_parts Try.info_u8
    rw [hi, Option.map_some, hsz]
  have hDl := hS.len
  have hLl := hA.len
  have hlk : (D.take k).length = k := by rw [List.length_take]; omega
  by_cases h0 : k = 0
  · subst h0
    refine wpList_copy_nothing hgd d s _ _ hop 5 Try.underlying23 hi1 dp sp dl dc sl sc hd hs (by show min sl dl = 0; omega) ?_
    refine hK w ?_ (World.grownBy.refl _ _)
    have e : splN L off (D.take 0) = L := by unfold splN; rw [List.take_zero]; simp
    rw [e]
    exact hA
  · have hdp := hpos (by omega)
    subst hdp
    have hS2 := hS.cut (m := k) (by omega)
    obtain ⟨b, o2, e2, hb, hc⟩ := hS2.at' (by omega)
    subst e2
    rcases hA.own.2 with ⟨h1, _⟩ | ⟨g', cap', cur, h1, h2, h3, h4, h5, h6, h7⟩
    · simp at h1
    · simp only [Value.slice.injEq, Option.some.injEq, Addr.mk.injEq] at h1
      obtain ⟨⟨rfl, _⟩, _, rfl⟩ := h1
      have hcl : cur.size = c := by omega
      have hbl : (bys (D.take k)).length = k := by rw [bys_length, hlk]
      refine wpList_copy_own hgd d s _ _ hop 5 Try.underlying23 hi1 g off dl dc ⟨b, o2, none⟩ sl sc hd hs cur 5 h3 (bys (D.take k)) (by rw [hbl]; exact hk) (rd_news2 hS2) (by rw [hbl]; omega) (bys_one _) ?_
      have hR : cur.toList = bys L ++ cur.toList.drop n := by
        have := (List.take_append_drop n cur.toList).symm
        rw [Nat.mul_one] at h7
        rw [h7] at this
        exact this
      have hX : (cur.toList.take off ++ (bys (D.take k) ++ cur.toList.drop (off + (bys (D.take k)).length))) = bys (splN L off (D.take k)) ++ cur.toList.drop n := by
        rw [hbl]
        conv => lhs; rw [hR]
        rw [List.take_append_of_le_length (by rw [bys_length]; omega), List.drop_append_of_le_length (by rw [bys_length]; omega)]
        unfold splN bys
        rw [List.map_append, List.map_append, List.map_take, List.map_drop, hlk]
        simp only [List.map_take, List.map_drop, List.append_assoc]
      have hsl : (splN L off (D.take k)).length = n := by rw [splN_len (by rw [hlk]; omega)]; exact hLl
      rw [hbl]
      refine hK _ ⟨⟨by rw [bys_length, hsl]; omega, .inr ⟨g, c, _, rfl, h2, setRow_heap w g cur _ 5 _ h3, h4, h5, ?_, ?_⟩⟩, ?_, hA.new⟩ ⟨rfl, rfl, rfl, by simp, fun j _ hj => setRow_other w g j _ (fun e => hj (by simp [e]))⟩
      · rw [← hcl, List.size_toArray]
        rw [hbl] at hX
        rw [hX, List.length_append, bys_length, hsl, List.length_drop, Array.length_toList]
        omega
      · rw [hbl] at hX
        show List.take (n * 1) _ = _
        rw [Nat.mul_one, hX]
        exact List.take_left' (by rw [bys_length, hsl])
      · intro x hx
        unfold splN at hx
        rcases List.mem_append.1 hx with hx | hx
        · exact hA.byte x (List.mem_of_mem_take hx)
        · rcases List.mem_append.1 hx with hx | hx
          · exact hS.byte x (List.mem_of_mem_take hx)
          · exact hA.byte x (List.mem_of_mem_drop hx)
/-- rows of a piece laid over a file, one by one -/
def cpL (L D : List Nat) (x : Nat) (R : List (Int × Int)) : Nat → List Nat
  | 0 => L
  | k + 1 => splN (cpL L D x R k) (giF R k).1.toNat ((D.drop ((giF R k).1.toNat - x)).take ((giF R k).2.toNat - (giF R k).1.toNat))
theorem nth_dt (D : List Nat) (a b i : Nat) (h : i < b) : nth ((D.drop a).take b) i = nth D (a + i) := by
  unfold nth
  rw [List.getD_eq_getElem?_getD, List.getD_eq_getElem?_getD, List.getElem?_take_of_lt h, List.getElem?_drop]
theorem cpL_all {L D : List Nat} {x : Nat} {R : List (Int × Int)} (hR : ∀ p, p ∈ R → (x : Int) ≤ p.1 ∧ p.1 < p.2 ∧ p.2 ≤ ((x + D.length : Nat) : Int)) (hL : x + D.length ≤ L.length) : ∀ k, k ≤ R.length → (cpL L D x R k).length = L.length ∧ ∀ i, nth (cpL L D x R k) i = if cvL (R.take k) i = true then nth D (i - x) else nth L i := by
  intro k
  induction k with
  | zero => intro _; refine ⟨rfl, fun i => ?_⟩; rw [List.take_zero, cvL_no (fun a ha => by cases ha), if_neg (by decide)]; rfl
  | succ k ih =>
    intro hk
    obtain ⟨h1, h2⟩ := ih (by omega)
    have hp := hR _ (List.getElem_mem (show k < R.length by omega))
    have hgi := giF_at (K := R) (m := k) (by omega)
    rw [← hgi] at hp
    have hlen : ((D.drop ((giF R k).1.toNat - x)).take ((giF R k).2.toNat - (giF R k).1.toNat)).length = (giF R k).2.toNat - (giF R k).1.toNat := by
      rw [List.length_take, List.length_drop]; omega
    have hfit : (giF R k).1.toNat + ((D.drop ((giF R k).1.toNat - x)).take ((giF R k).2.toNat - (giF R k).1.toNat)).length ≤ (cpL L D x R k).length := by rw [hlen, h1]; omega
    refine ⟨by show (splN _ _ _).length = _; rw [splN_len hfit, h1], fun i => ?_⟩
    show nth (splN _ _ _) i = _
    rw [splN_nth hfit, hlen, h2, List.take_add_one, cvL_app, List.getElem?_eq_getElem (by omega)]
    show _ = if (cvL (R.take k) i || cvL [R[k]] i) = true then _ else _
    rw [cvL_one, ← hgi]
    by_cases e : (giF R k).1.toNat ≤ i ∧ i < (giF R k).1.toNat + ((giF R k).2.toNat - (giF R k).1.toNat)
    · rw [if_pos e, decide_eq_true (by omega), Bool.or_true, if_pos rfl, nth_dt _ _ _ _ (by omega)]
      congr 1
      omega
    · rw [if_neg e, decide_eq_false (by omega), Bool.or_false]
/-- a piece laid into a file: those bytes stay that came first -/
def laL (L D : List Nat) (F : Nat → Int × Int) (m x : Nat) : List Nat := (List.range (max L.length (x + D.length))).map (fun i => if (cvB F i m = false ∧ x ≤ i ∧ i < x + D.length) then nth D (i - x) else nth L i)
theorem laL_len (L D : List Nat) (F : Nat → Int × Int) (m x : Nat) : (laL L D F m x).length = max L.length (x + D.length) := by unfold laL; simp
theorem ext_nth {A B : List Nat} (h : A.length = B.length) (hn : ∀ i, i < A.length → nth A i = nth B i) : A = B := by
  refine List.ext_getElem h (fun i h1 h2 => ?_)
  have := hn i h1
  unfold nth at this
  rw [List.getD_eq_getElem?_getD, List.getD_eq_getElem?_getD, List.getElem?_eq_getElem h1, List.getElem?_eq_getElem h2] at this
  exact this
theorem nth_zer (A : List Nat) (z i : Nat) : nth (A ++ List.replicate z 0) i = nth A i := by
  by_cases h : i < A.length
  · exact nth_append_left A _ i h
  · rw [nth_out A i (by omega)]
    unfold nth
    rw [List.getD_eq_getElem?_getD, List.getElem?_append_right (by omega), List.getElem?_replicate]
    by_cases e : i - A.length < z
    · rw [if_pos e]; rfl
    · rw [if_neg e]; rfl
theorem cp_la {L D : List Nat} {F : Nat → Int × Int} {m x z : Nat} (hR : Rise F m) (hz : L.length + z = max L.length (x + D.length)) :
    cpL (L ++ List.replicate z 0) D x (uqF F (x : Int) ((x + D.length : Nat) : Int) m) (uqF F (x : Int) ((x + D.length : Nat) : Int) m).length = laL L D F m x := by
  have hl : (L ++ List.replicate z 0).length = max L.length (x + D.length) := by rw [List.length_append, List.length_replicate]; exact hz
  obtain ⟨h1, h2⟩ := cpL_all (L := L ++ List.replicate z 0) (D := D) (x := x) (R := uqF F (x : Int) ((x + D.length : Nat) : Int) m) (fun p hp => unF_in p hp) (by rw [hl]; omega) _ (Nat.le_refl _)
  refine ext_nth (by rw [h1, hl, laL_len]) (fun i hi => ?_)
  rw [h2, List.take_length, unF_cov hR, nth_zer]
  rw [h1, hl] at hi
  unfold laL
  rw [nth_map_range _ _ _ hi]
  have e : ((decide ((x : Int) ≤ (i : Int) ∧ (i : Int) < ((x + D.length : Nat) : Int)) && !cvB F i m) = true) ↔ (cvB F i m = false ∧ x ≤ i ∧ i < x + D.length) := by
    rw [Bool.and_eq_true, decide_eq_true_eq, Bool.not_eq_true']
    constructor
    · rintro ⟨a1, a2⟩; exact ⟨a2, by omega, by omega⟩
    · rintro ⟨a1, a2, a3⟩; exact ⟨by omega, a1⟩
  by_cases c : (cvB F i m = false ∧ x ≤ i ∧ i < x + D.length)
  · rw [if_pos (e.2 c), if_pos c]
  · rw [if_neg (fun h => c (e.1 h)), if_neg c]
end

section
/-- append one pair -/
theorem wpList_psGi {w : World} {ops : Array Oper} {rest : List Oper} {o : Oper} {a : Act} {Q : Exit → Act → World → Prop} (hg : o.guard = none) (s x : Operand)
    (hop : o.op = Op.call { callee := .builtin .append, args := #[s, x], argTypes := #[24, 24] }) (q : Option Addr) (m d lo : Nat) (U : List (Int × Int)) (hs : a.eval s = .slice q m d)
    (hO : OwGi w lo q m d U) (hlo : lo ≤ w.heap.size) (gA : Nat) (p : Int × Int) (hx : a.eval x = .slice (some ⟨gA, 0, none⟩) 1 1) (bA : BxS w gA 82 #[.int .i64 p.1, .int .i64 p.2]) (hm : m ≤ 1000000)
    (hK : ∀ q' d' w', OwGi w' lo q' (m + 1) d' (U ++ [p]) → w.grownBy w' (Value.slice q m d).ownBlock → (∀ z, (Value.slice q' (m + 1) d').ownBlock = some z → (Value.slice q m d).ownBlock = some z ∨ w.heap.size ≤ z) → wpList Try.prog ops Q rest (a.put o.dst (.slice q' (m + 1) d')) w') :
    wpList Try.prog ops Q (o :: rest) a w := by
  obtain ⟨i0, hi, hz0, hz1, hz2⟩ := info_parts Try.info_pr
  refine wpList_apS w hg s x 24 82 i0 (.agg #[.int .i64 0, .int .i64 0]) 2 16 Try.underlying24 hi hz0 hz1 hz2 rfl (by decide) hop (.slice q m d) m (flG (giF U) m) hs hO.own ⟨gA, 0, none⟩ 1 1 [.int .i64 p.1, .int .i64 p.2] hx rfl bA.newsA (by intro u hu; simp only [List.mem_cons, List.not_mem_nil, or_false] at hu; rcases hu with rfl | rfl <;> rfl) (by decide) (by unfold maxLen; omega) (by omega) ?_
  intro gx cx w8 hor u8 hO8
  rw [← giF_push U p m hO.len] at hO8
  refine hK (some ⟨gx, 0, none⟩) cx w8 ⟨hO8, by rw [List.length_append, hO.len]; rfl, fun g e => ?_⟩ u8 (fun z e => ?_)
  · have e : gx = g := Option.some.inj e
    subst e
    rcases hor with e | e
    · exact hO.new _ e
    · omega
  · have e : gx = z := Option.some.inj e
    subst e
    exact hor
structure WiM (w wr : World) (g3 : Nat) (s : List (Int × Int) × (Int × Int) × List (Int × Int)) (q1 : Option Addr) (m1 d1 : Nat) (q2 : Option Addr) (m2 d2 : Nat) (j : Nat) : Prop where
  O1 : OwGi wr w.heap.size q1 m1 d1 s.1
  O2 : OwGi wr w.heap.size q2 m2 d2 s.2.2
  b3 : BxS wr g3 82 #[.int .i64 s.2.1.1, .int .i64 s.2.1.2]
  sp : ∀ z, (Value.slice q1 m1 d1).ownBlock = some z → (Value.slice q2 m2 d2).ownBlock ≠ some z
  n1 : (Value.slice q1 m1 d1).ownBlock ≠ some g3
  n2 : (Value.slice q2 m2 d2).ownBlock ≠ some g3
  l1 : m1 ≤ j
  l2 : m2 ≤ j
  g : w.grownBy wr none
  lg : w.heap.size ≤ g3
section
variable {w wr w' : World} {g3 : Nat} {s : List (Int × Int) × (Int × Int) × List (Int × Int)} {q1 : Option Addr} {m1 d1 : Nat} {q2 : Option Addr} {m2 d2 : Nat} {j : Nat}
theorem WiM.keep (h : WiM w wr g3 s q1 m1 d1 q2 m2 d2 j) (u : wr.grownBy w' none) : WiM w w' g3 s q1 m1 d1 q2 m2 d2 j :=
  ⟨h.O1.keep u, h.O2.keep u, h.b3.keep u (by simp), h.sp, h.n1, h.n2, h.l1, h.l2, grown_trans h.g u, h.lg⟩
theorem WiM.low (h : WiM w wr g3 s q1 m1 d1 q2 m2 d2 j) {p : Int × Int} {q' : Option Addr} {d' : Nat} (hO : OwGi w' w.heap.size q' (m1 + 1) d' (s.1 ++ [p])) (u : wr.grownBy w' (Value.slice q1 m1 d1).ownBlock) (ho : ∀ z, (Value.slice q' (m1 + 1) d').ownBlock = some z → (Value.slice q1 m1 d1).ownBlock = some z ∨ wr.heap.size ≤ z) : WiM w w' g3 (s.1 ++ [p], s.2.1, s.2.2) q' (m1 + 1) d' q2 m2 d2 (j + 1) := by
  have l3 := h.b3.lt
  refine ⟨hO, h.O2.kR u (fun z e e2 => h.sp z e e2), h.b3.keep u (fun e => h.n1 e.symm), fun z e e2 => ?_, fun e => ?_, h.n2, by have := h.l1; omega, by have := h.l2; omega, grown_far h.g u h.O1.new, h.lg⟩
  · rcases ho z e with e3 | e3
    · exact h.sp z e3 e2
    · have := h.O2.lt e2; omega
  · rcases ho _ e with e3 | e3
    · exact h.n1 e3
    · omega
theorem WiM.high (h : WiM w wr g3 s q1 m1 d1 q2 m2 d2 j) {p : Int × Int} {q' : Option Addr} {d' : Nat} (hO : OwGi w' w.heap.size q' (m2 + 1) d' (s.2.2 ++ [p])) (u : wr.grownBy w' (Value.slice q2 m2 d2).ownBlock) (ho : ∀ z, (Value.slice q' (m2 + 1) d').ownBlock = some z → (Value.slice q2 m2 d2).ownBlock = some z ∨ wr.heap.size ≤ z) : WiM w w' g3 (s.1, s.2.1, s.2.2 ++ [p]) q1 m1 d1 q' (m2 + 1) d' (j + 1) := by
  have l3 := h.b3.lt
  refine ⟨h.O1.kR u (fun z e e2 => h.sp z e2 e), hO, h.b3.keep u (fun e => h.n2 e.symm), fun z e e2 => ?_, h.n1, fun e => ?_, by have := h.l1; omega, by have := h.l2; omega, grown_far h.g u h.O2.new, h.lg⟩
  · rcases ho z e2 with e3 | e3
    · exact h.sp z e e3
    · have := h.O1.lt e; omega
  · rcases ho _ e with e3 | e3
    · exact h.n2 e3
    · omega
theorem WiM.mid (h : WiM w wr g3 s q1 m1 d1 q2 m2 d2 j) {x y : Int} (b : BxS w' g3 82 #[.int .i64 x, .int .i64 y]) (u : wr.grownBy w' (some g3)) : WiM w w' g3 (s.1, (x, y), s.2.2) q1 m1 d1 q2 m2 d2 (j + 1) :=
  ⟨h.O1.kR u (fun z e e2 => by have e := Option.some.inj e; subst e; exact h.n1 e2), h.O2.kR u (fun z e e2 => by have e := Option.some.inj e; subst e; exact h.n2 e2), b, h.sp, h.n1, h.n2, by have := h.l1; omega, by have := h.l2; omega, grown_far h.g u (fun z e => by have e := Option.some.inj e; have := h.lg; omega), h.lg⟩
end

set_option maxHeartbeats 16000000 in
theorem with_any (q : Option Addr) (m d : Nat) (F : Nat → Int × Int) (x y : Int) (w : World) (hG : RdG w q m d F) (hm : m ≤ 100000) :
    Calls Try.prog 126 #[.slice q m d, .agg #[.int .i64 x, .int .i64 y]] w fun e w' => ∃ q' d', e = .returned (.slice q' (wiL F x y m).length d') ∧ OwGi w' w.heap.size q' (wiL F x y m).length d' (wiL F x y m) ∧ w.grownBy w' none := by
  have i2 := Try.info_sp
  have u2 := Try.underlying82
  have b3 := BxS.new w 82 #[.int .i64 x, .int .i64 y]
  have g3' := World.grownBy_alloc w (.cells #[.int .i64 x, .int .i64 y] 82) none
  generalize hw1 : w.alloc (.cells #[.int .i64 x, .int .i64 y] 82) = w1 at b3 g3'
  obtain ⟨g3, hg3⟩ : ∃ g3, w.heap.size = g3 := ⟨_, rfl⟩
  have lg3 : w.heap.size ≤ g3 := by omega
  go_enter Try.func126, Try.ntmps126
  refine wp_seq_k fun K1 hK1 => ?_
  have HK1 : Hid _ := hK1
  clear hK1
  go_wp2
  refine HK1.out _ _ ?_
  clear HK1
  clear hw1
  rw [hg3] at b3 ⊢
  have HG3 : Hid _ := hg3
  clear hg3
  refine wp_seq_k fun K1 hK1 => ?_
  have HK1 : Hid _ := hK1
  clear hK1
  go_wp2
  refine HK1.out _ _ ?_
  clear HK1
  refine wp_seq_k fun K1 hK1 => ?_
  have HK1 : Hid _ := hK1
  clear hK1
  go_wp2
  go_loopw [11, 5, 6] (fun iv lv hv wr => ∃ (j : Nat) (q1 : Option Addr) (m1 d1 : Nat) (q2 : Option Addr) (m2 d2 : Nat), j ≤ m ∧ iv = .int .i64 j ∧ lv = .slice q1 m1 d1 ∧ hv = .slice q2 m2 d2 ∧ WiM w wr g3 (wiS F x y j) q1 m1 d1 q2 m2 d2 j) (fun iv _ _ _ => m - (intOf iv).toNat)
  case atStart => exact ⟨0, none, 0, 0, none, 0, 0, Nat.zero_le _, rfl, rfl, rfl, ⟨OwGi.nil _ _, OwGi.nil _ _, b3, (fun z e => by cases e), (fun e => by cases e), (fun e => by cases e), Nat.le_refl _, Nat.le_refl _, g3', lg3⟩⟩
  case round =>
    obtain ⟨j, q1, m1, d1, q2, m2, d2, hj, rfl, rfl, rfl, hM⟩ := hrel
    by_cases hlt : j < m
    · have lj : (j : Int) < (m : Int) := by omega
      obtain ⟨b, off, rfl, hb, hc⟩ := (hG.keep hM.g).at' (by omega)
      obtain ⟨p0, p1⟩ := hc j hlt
      have HS : Hid (wiS F x y (j + 1) = if (F j).2 < (wiS F x y j).2.1.1 then ((wiS F x y j).1 ++ [F j], (wiS F x y j).2.1, (wiS F x y j).2.2) else if (wiS F x y j).2.1.2 < (F j).1 then ((wiS F x y j).1, (wiS F x y j).2.1, (wiS F x y j).2.2 ++ [F j]) else ((wiS F x y j).1, (minI (F j).1 (wiS F x y j).2.1.1, maxI (F j).2 (wiS F x y j).2.1.2), (wiS F x y j).2.2)) := rfl
      obtain ⟨f0, f1, hf⟩ : ∃ f0 f1, F j = (f0, f1) := ⟨_, _, rfl⟩
      rw [hf] at p0 p1 HS
      obtain ⟨sS, hsS⟩ : ∃ sS, wiS F x y j = sS := ⟨_, rfl⟩
      rw [hsS] at HS hM
      clear hsS hf hc
      obtain ⟨U, ⟨p, r⟩, H⟩ := sS
      dsimp only at HS hM
      have HMM : Hid _ := hM
      have hl1 := hM.l1
      have hl2 := hM.l2
      refine wp_seq_k fun K2 hK2 => ?_
      have HK2 : Hid _ := hK2
      clear hK2
      go_wp2
      refine HK2.out _ _ ?_
      clear HK2
      refine wp_seq_k fun K2 hK2 => ?_
      have HK2 : Hid _ := hK2
      clear hK2
      go_wp2
      refine HK2.out _ _ ?_
      clear HK2
      refine wp_seq_k fun K2 hK2 => ?_
      have HK2 : Hid _ := hK2
      clear hK2
      refine wp_block ?_
      refine wp_seq_k fun K3 hK3 => ?_
      have HK3 : Hid _ := hK3
      clear hK3
      have bn0 := BxS.new wr 82 #[.int .i64 0, .int .i64 0]
      have gn0 := World.grownBy_alloc wr (.cells #[.int .i64 0, .int .i64 0] 82) none
      generalize hw2 : wr.alloc (.cells #[.int .i64 0, .int .i64 0] 82) = w2 at bn0 gn0
      have s0 : True := trivial
      go_wp2_with (have _t := s0; clear s0; refine wpList_stX _ rfl _ (.tmp 8) (.tmp 14) rfl wr.heap.size _ _ rfl rfl bn0 i2 rfl (by simp [Value.oneCell']) ?_; intro w3 b83 u3)
      have G3 : wr.grownBy w3 none := grown_far gn0 u3 (fun z e => by have e := Option.some.inj e; omega)
      obtain ⟨g8, hg8⟩ : ∃ g8, wr.heap.size = g8 := ⟨_, rfl⟩
      rw [hg8] at b83 ⊢
      clear u3 bn0 gn0 hw2 p0 p1 hg8
      refine HK3.out _ _ ?_
      clear HK3
      have hM3 := HMM.out.keep G3
      have hlo3 := hM3.g.size
      obtain ⟨z0, z1⟩ := hM3.b3.cell2
      obtain ⟨y0, y1⟩ := b83.cell2
      refine wp_block ?_
      by_cases h1 : f1 < p
      · rw [if_pos h1] at HS
        have bA := BxS.new w3 82 #[.int .i64 f0, .int .i64 f1]
        have yA := World.grownBy_alloc w3 (.cells #[.int .i64 f0, .int .i64 f1] 82) none
        generalize hwA : w3.alloc (.cells #[.int .i64 f0, .int .i64 f1] 82) = wA at bA yA
        have hMA := hM3.keep yA
        have zA := yA.size
        have s0 : True := trivial
        go_wp2_with (at_builtin; have _t := s0; clear s0; refine wpList_psGi rfl _ _ rfl q1 m1 d1 w.heap.size U rfl hMA.O1 (by omega) w3.heap.size (f0, f1) rfl bA (by omega) ?_; intro q5 d5 w5 hO5 u5 ho5)
        have hM5 := hMA.low hO5 u5 ho5
        try simp only [Exit.inBlock, Exit.then]
        refine HK2.out _ _ ?_
        clear HK2
        go_wp2
        go_roundw
        case rel =>
          refine ⟨j + 1, q5, m1 + 1, d5, q2, m2, d2, by omega, by go_num, rfl, rfl, ?_⟩
          rw [HS.out]
          exact hM5
        case measure => simp [intOf] <;> omega
      · rw [if_neg h1] at HS
        by_cases h2 : r < f0
        · rw [if_pos h2] at HS
          have bA := BxS.new w3 82 #[.int .i64 f0, .int .i64 f1]
          have yA := World.grownBy_alloc w3 (.cells #[.int .i64 f0, .int .i64 f1] 82) none
          generalize hwA : w3.alloc (.cells #[.int .i64 f0, .int .i64 f1] 82) = wA at bA yA
          have hMA := hM3.keep yA
          have zA := yA.size
          have s0 : True := trivial
          go_wp2_with (at_builtin; have _t := s0; clear s0; refine wpList_psGi rfl _ _ rfl q2 m2 d2 w.heap.size H rfl hMA.O2 (by omega) w3.heap.size (f0, f1) rfl bA (by omega) ?_; intro q5 d5 w5 hO5 u5 ho5)
          have hM5 := hMA.high hO5 u5 ho5
          try simp only [Exit.inBlock, Exit.then]
          refine HK2.out _ _ ?_
          clear HK2
          go_wp2
          go_roundw
          case rel =>
            refine ⟨j + 1, q1, m1, d1, q5, m2 + 1, d5, by omega, by go_num, rfl, rfl, ?_⟩
            rw [HS.out]
            exact hM5
          case measure => simp [intOf] <;> omega
        · rw [if_neg h2] at HS
          have b33 := hM3.b3
          have s0 : True := trivial
          go_wp2_with (have _t := s0; clear s0; refine wpList_stX _ rfl _ (.tmp 3) (.tmp 25) rfl g3 _ _ rfl rfl b33 i2 rfl (by simp [Value.oneCell']) ?_; intro w5 b5 u5)
          rw [min_is f0 p, max_is f1 r] at b5
          try rw [min_is f0 p, max_is f1 r]
          have hM5 := hM3.mid b5 u5
          try simp only [Exit.inBlock, Exit.then]
          refine HK2.out _ _ ?_
          clear HK2
          go_wp2
          go_roundw
          case rel =>
            refine ⟨j + 1, q1, m1, d1, q2, m2, d2, by omega, by go_num, rfl, rfl, ?_⟩
            rw [HS.out]
            exact hM5
          case measure => simp [intOf] <;> omega
    · obtain rfl : j = m := by omega
      have lj : ¬ (j : Int) < (j : Int) := by omega
      go_wp2
      try simp only [Exit.inBlock, Exit.then]
      refine HK1.out _ _ ?_
      clear HK1
      have HFF : Hid (wiL F x y j = (wiS F x y j).1 ++ [(wiS F x y j).2.1] ++ (wiS F x y j).2.2) := rfl
      obtain ⟨sS, hsS⟩ : ∃ sS, wiS F x y j = sS := ⟨_, rfl⟩
      rw [hsS] at HFF hM
      clear hsS
      obtain ⟨U, ⟨p, r⟩, H⟩ := sS
      dsimp only at HFF hM
      have hl1 := hM.l1
      have hl2 := hM.l2
      have hlo := hM.g.size
      obtain ⟨z0, z1⟩ := hM.b3.cell2
      have bA := BxS.new wr 82 #[.int .i64 p, .int .i64 r]
      have yA := World.grownBy_alloc wr (.cells #[.int .i64 p, .int .i64 r] 82) none
      generalize hwA : wr.alloc (.cells #[.int .i64 p, .int .i64 r] 82) = wA at bA yA
      have hMA := hM.keep yA
      have zA := yA.size
      have s0 : True := trivial
      go_wp2_with (first
        | (at_builtin; have _t := s0; clear s0; refine wpList_psGi rfl _ _ rfl q1 m1 d1 w.heap.size U rfl hMA.O1 (by omega) wr.heap.size (p, r) rfl bA (by omega) ?_; intro q5 d5 w5 hO5 u5 ho5; have hM5 := hMA.low hO5 u5 ho5; have hlo5 := hM5.g.size; have s1 : True := trivial)
        | (at_builtin; have _t := s1; clear s1; refine wpList_joinG rfl _ _ rfl q5 (m1 + 1) d5 w.heap.size (U ++ [(p, r)]) rfl hO5 hlo5 q2 m2 d2 (giF H) rfl hM5.O2.rd (by omega) ?_; intro q6 d6 w6 hO6 u6))
      try go_ret
      have hlH : H.length = m2 := hM.O2.len
      have hO7 : OwGi w6 w.heap.size q6 (m1 + 1 + m2) d6 (U ++ [(p, r)] ++ H) := by
        have e : tabG (giF H) m2 = H := by rw [← hlH]; exact tab_giF H
        rw [e] at hO6
        exact hO6
      have hl7 := hO7.len
      rw [HFF.out]
      rw [hl7]
      exact ⟨q6, d6, rfl, by rw [← HG3.out]; exact hO7, grown_far hM5.g u6 hO5.new⟩
end
end Go.Proofs.Ytnimehkfnpepfaa
