import Derived.Test.YtnimehkfnpepfaaWt15
import Derived.Test.YtnimehkfnpepfaaWt13
import Derived.Test.YtnimehkfnpepfaaWt10
import Derived.Test.YtnimehkfnpepfaaWt14
import Derived.Test.YtnimehkfnpepfaaWt2
import Derived.Test.YtnimehkfnpepfaaWt3
import Derived.Test.YtnimehkfnpepfaaWt4
import Derived.Test.YtnimehkfnpepfaaWt5
import Derived.Test.YtnimehkfnpepfaaWt6
import Derived.Test.YtnimehkfnpepfaaWt9
namespace Go.Proofs.Ytnimehkfnpepfaa
open Go.RowKit
set_option maxRecDepth 100000
set_option linter.unusedVariables false
set_option linter.unusedSimpArgs false

section
/-- what Whole answers -/
def whV (tB : Bool) (V : Tv) : ByteArray × List Nat × Nat := if tB = false then (⟨#[]⟩, [], 11) else if V.st = 3 then (V.nm, V.L.take V.si.toNat, 0) else (⟨#[]⟩, [], 7)
theorem ha_le {V : Tv} (ho : TvO V) (h3 : V.st = 3) : V.si ≤ (V.L.length : Int) := by
  have h := ho.ov h3
  unfold haB at h
  have h := of_decide_eq_true h
  rw [ho.rc]
  have hu : ¬ uqA (giF V.G) 0 V.G.length < V.si := by
    intro e
    unfold uqF at h
    rw [if_pos e, List.length_append] at h
    have h : (uqL (giF V.G) 0 V.si V.G.length).length + 1 = 0 := h
    omega
  obtain ⟨h1, h2⟩ := uqA_rise V.G.length ho.ri
  unfold rcN
  by_cases e : V.G.length = 0
  · rw [if_pos e]
    rw [e] at hu
    have hu : ¬ (0 : Int) < V.si := hu
    omega
  · rw [if_neg e, ← h2 (by omega)]
    omega

set_option maxHeartbeats 32000000 in
theorem whole_any (V : Tv) (a q : Option Addr) (c d : Nat) (w : World) (hL : Rd w a V.L.length c V.L) (hG : RdG w q V.G.length d (giF V.G)) (hn : V.L.length ≤ 140737488351232) (hm : V.G.length ≤ 8796093021952) :
    Calls Try.prog 43 #[.agg (tkA V.id V.kn V.nm V.si V.en V.la V.su (.slice q V.G.length d) (.slice a V.L.length c) V.st V.ti V.pa V.tr V.li)] w fun e w' => ∃ a' c', e = .returned (.tuple #[.string (whV (tmB V.id V.kn V.nm V.si V.en V.la V.su (giF V.G) V.G.length V.L V.st V.ti V.pa V.tr V.li) V).1, .slice a' (whV (tmB V.id V.kn V.nm V.si V.en V.la V.su (giF V.G) V.G.length V.L V.st V.ti V.pa V.tr V.li) V).2.1.length c', .int .i64 ((whV (tmB V.id V.kn V.nm V.si V.en V.la V.su (giF V.G) V.G.length V.L V.st V.ti V.pa V.tr V.li) V).2.2 : Nat)]) ∧ Ans w' w.heap.size a' (whV (tmB V.id V.kn V.nm V.si V.en V.la V.su (giF V.G) V.G.length V.L V.st V.ti V.pa V.tr V.li) V).2.1.length c' (whV (tmB V.id V.kn V.nm V.si V.en V.la V.su (giF V.G) V.G.length V.L V.st V.ti V.pa V.tr V.li) V).2.1 ∧ w.grownBy w' none := by
  have i14 := Try.info_tk
  have kM := fun wz (k1 : Rd wz a V.L.length c V.L) (k : RdG wz q V.G.length d (giF V.G)) => takerMay_any V.id V.kn V.nm V.si V.en V.la V.su q V.G.length d a V.L.length c V.st V.ti V.pa V.tr V.li (giF V.G) V.L wz k1 k hm hn
  have hgo := fun h => tmB_go (V := V) h
  have HGO : Hid _ := hgo
  clear hgo
  unfold tkA at kM
  generalize (tmB V.id V.kn V.nm V.si V.en V.la V.su (giF V.G) V.G.length V.L V.st V.ti V.pa V.tr V.li) = gB at kM HGO
  have b1 := BxS.new w 48 #[.int .i64 V.id, .bool V.kn, .string V.nm, .int .i64 V.si, .bool V.en, .int .i64 V.la, .int .i64 V.su, .slice q V.G.length d, .slice a V.L.length c, .int .i64 V.st, .int .i64 V.ti, .int .i64 V.pa, .int .i64 V.tr, .int .i64 V.li]
  have y1 := World.grownBy_alloc w (.cells #[.int .i64 V.id, .bool V.kn, .string V.nm, .int .i64 V.si, .bool V.en, .int .i64 V.la, .int .i64 V.su, .slice q V.G.length d, .slice a V.L.length c, .int .i64 V.st, .int .i64 V.ti, .int .i64 V.pa, .int .i64 V.tr, .int .i64 V.li] 48) none
  unfold tkA
  generalize hw1 : w.alloc (.cells #[.int .i64 V.id, .bool V.kn, .string V.nm, .int .i64 V.si, .bool V.en, .int .i64 V.la, .int .i64 V.su, .slice q V.G.length d, .slice a V.L.length c, .int .i64 V.st, .int .i64 V.ti, .int .i64 V.pa, .int .i64 V.tr, .int .i64 V.li] 48) = w1 at b1 y1
  go_enter Try.func43, Try.ntmps43
  refine wp_seq_k fun K1 hK1 => ?_
  have HK1 : Hid _ := hK1
  clear hK1
  go_wp2
  refine HK1.out _ _ ?_
  clear HK1
  clear hw1
  have s0 : True := trivial
  cases gB with
  | false =>
    go_wp2_with (first
      | (have _t := s0; clear s0; refine wpList_ldX _ rfl _ (.tmp 1) rfl w.heap.size _ rfl b1 Try.underlying48 i14 ?_; have s1 : True := trivial)
      | (go_at_call 77; have _t := s1; clear s1; refine (kM w1 (hL.keep y1) (hG.keep y1)).mono ?_; rintro e w3 ⟨rfl, y3⟩))
    refine bodyPost_ret (results_tmp3 rfl _ _ _) rfl ?_
    exact ⟨none, 0, rfl, Ans.nil _ _, grown_trans y1 y3⟩
  | true =>
    have HO : Hid _ := HGO.out rfl
    refine wp_seq_k fun K2 hK2 => ?_
    have HK2 : Hid _ := hK2
    clear hK2
    go_wp2_with (first
      | (have _t := s0; clear s0; refine wpList_ldX _ rfl _ (.tmp 1) rfl w.heap.size _ rfl b1 Try.underlying48 i14 ?_; have s1 : True := trivial)
      | (go_at_call 77; have _t := s1; clear s1; refine (kM w1 (hL.keep y1) (hG.keep y1)).mono ?_; rintro e w3 ⟨rfl, y3⟩; have s2 : True := trivial))
    refine HK2.out _ _ ?_
    clear HK2
    have G3 := grown_trans y1 y3
    have b13 := b1.keep y3 (by simp)
    have hL3 := hL.keep G3
    have y9 : w3.cell? ⟨w.heap.size, 9, none⟩ = some (.int .i64 V.st) := b13.cell 9 (by show 9 < 14; decide)
    clear b1
    by_cases h3 : V.st = 3
    · have hle := ha_le HO.out h3
      have hs0 := HO.out.si
      have HX : Hid (whV true V = (V.nm, V.L.take V.si.toNat, 0)) := by show _ = _; unfold whV; rw [if_neg (by decide), if_pos h3]
      rw [HX.out]
      obtain ⟨k, hk⟩ : ∃ k : Nat, V.si = (k : Int) := ⟨V.si.toNat, by omega⟩
      have hk2 : V.si.toNat = k := by omega
      rw [hk2]
      have hkl : k ≤ V.L.length := by omega
      have hkl2 : (V.L.take k).length = k := by rw [List.length_take]; omega
      rw [hk] at b13
      rw [hkl2]
      have HKL : Hid _ := hkl2
      rw [h3] at y9
      clear hle hs0 HX hk hk2 h3 hkl2
      refine wp_seq_k fun K4 hK4 => ?_
      have HK4 : Hid _ := hK4
      clear hK4
      go_wp2
      try simp only [Exit.then]
      refine HK4.out _ _ ?_
      clear HK4
      clear y9
      refine wp_seq_k fun K4 hK4 => ?_
      have HK4 : Hid _ := hK4
      clear hK4
      have hR := hL3.cut hkl
      have hlc := hL3.le
      have z3 := G3.size
      have Gd := grown_drew w3 none
      have b13 := b13.keep Gd (by simp)
      have hR := hR.keep Gd
      have G3 := grown_trans G3 Gd
      refine wp_regionL (fun wz => BxS wz w.heap.size 48 #[.int .i64 V.id, .bool V.kn, .string V.nm, .int .i64 (k : Int), .bool V.en, .int .i64 V.la, .int .i64 V.su, .slice q V.G.length d, .slice a V.L.length c, .int .i64 V.st, .int .i64 V.ti, .int .i64 V.pa, .int .i64 V.tr, .int .i64 V.li]) [] #[false, false, false, false, false, false, false, false, false, false, false] rfl (by kernel_rfl) ?_
      generalize w3.drew = w4 at *
      refine wpAnyZ_take [] 0 (.pointer (some ⟨w.heap.size, 2, none⟩)) rfl (by kernel_rfl) (fun _ _ _ h => h) b13 rfl (by intro wz hz; go_simp) ?_
      try simp only [List.getElem_toArray, List.getElem_cons_succ, List.getElem_cons_zero, Act.put, List.setIfInBounds_toArray, List.set_cons_zero, List.set_cons_succ]
      refine wpAnyZ_take [] 1 (.string V.nm) rfl (by kernel_rfl) (fun _ _ _ h => h) b13 rfl (by intro wz hz; have z : wz.cell? ⟨w.heap.size, 2, none⟩ = some (.string V.nm) := hz.cell 2 (by show 2 < 14; decide); go_simp) ?_
      try simp only [List.getElem_toArray, List.getElem_cons_succ, List.getElem_cons_zero, Act.put, List.setIfInBounds_toArray, List.set_cons_zero, List.set_cons_succ]
      refine wpAnyZ_take [] 2 (.pointer (some ⟨w.heap.size, 8, none⟩)) rfl (by kernel_rfl) (fun _ _ _ h => h) b13 rfl (by intro wz hz; go_simp) ?_
      try simp only [List.getElem_toArray, List.getElem_cons_succ, List.getElem_cons_zero, Act.put, List.setIfInBounds_toArray, List.set_cons_zero, List.set_cons_succ]
      refine wpAnyZ_take [] 3 (.slice a V.L.length c) rfl (by kernel_rfl) (fun _ _ _ h => h) b13 rfl (by intro wz hz; have z : wz.cell? ⟨w.heap.size, 8, none⟩ = some (.slice a V.L.length c) := hz.cell 8 (by show 8 < 14; decide); go_simp) ?_
      try simp only [List.getElem_toArray, List.getElem_cons_succ, List.getElem_cons_zero, Act.put, List.setIfInBounds_toArray, List.set_cons_zero, List.set_cons_succ]
      refine wpAnyZ_take [] 4 (.pointer (some ⟨w.heap.size, 3, none⟩)) rfl (by kernel_rfl) (fun _ _ _ h => h) b13 rfl (by intro wz hz; go_simp) ?_
      try simp only [List.getElem_toArray, List.getElem_cons_succ, List.getElem_cons_zero, Act.put, List.setIfInBounds_toArray, List.set_cons_zero, List.set_cons_succ]
      refine wpAnyZ_take [] 5 (.int .i64 (k : Int)) rfl (by kernel_rfl) (fun _ _ _ h => h) b13 rfl (by intro wz hz; have z : wz.cell? ⟨w.heap.size, 3, none⟩ = some (.int .i64 (k : Int)) := hz.cell 3 (by show 3 < 14; decide); go_simp) ?_
      try simp only [List.getElem_toArray, List.getElem_cons_succ, List.getElem_cons_zero, Act.put, List.setIfInBounds_toArray, List.set_cons_zero, List.set_cons_succ]
      have k1 : (k : Int) ≤ (c : Int) := by omega
      have k2 : k ≤ c := by omega
      have k3 : (0 : Int) ≤ (k : Int) := by omega
      have hcn : a = none → k = 0 ∧ c = 0 := fun e => by have := hL3.nil e; omega
      refine wpAnyZ_take [] 6 (.slice a k c) rfl (by kernel_rfl) (fun _ _ _ h => h) b13 rfl (by intro wz hz; cases a with | none => obtain ⟨rfl, rfl⟩ := hcn rfl; go_simp | some ad => obtain ⟨ab, ao, ar⟩ := ad; go_simp) ?_
      try simp only [List.getElem_toArray, List.getElem_cons_succ, List.getElem_cons_zero, Act.put, List.setIfInBounds_toArray, List.set_cons_zero, List.set_cons_succ]
      clear k1 k2 k3 hcn
      refine wpAnyZ_oneB 7 rfl (by kernel_rfl) (fun KK hKK => ?_)
      go_simp
      go_at_call 57
      refine (dclone_any a k c (V.L.take k) w4 hR (by omega)).mono ?_
      rintro e w5 ⟨a5, c5, rfl, hA5, y5⟩
      dsimp only
      have S5 := b13.keep y5 (by simp)
      refine hKK _ _ (fun _ => S5) ?_
      try simp only [List.getElem_toArray, List.getElem_cons_succ, List.getElem_cons_zero, Act.put, List.setIfInBounds_toArray, List.set_cons_zero, List.set_cons_succ]
      refine wpAnyZ_take [] 8 (.string V.nm) rfl (by kernel_rfl) (fun _ _ _ h => h) S5 rfl (by intro wz hz; go_simp) ?_
      try simp only [List.getElem_toArray, List.getElem_cons_succ, List.getElem_cons_zero, Act.put, List.setIfInBounds_toArray, List.set_cons_zero, List.set_cons_succ]
      refine wpAnyZ_take [] 9 (.slice a5 k c5) rfl (by kernel_rfl) (fun _ _ _ h => h) S5 rfl (by intro wz hz; go_simp) ?_
      try simp only [List.getElem_toArray, List.getElem_cons_succ, List.getElem_cons_zero, Act.put, List.setIfInBounds_toArray, List.set_cons_zero, List.set_cons_succ]
      refine wpAnyZ_take [] 10 (.int .i64 0) rfl (by kernel_rfl) (fun _ _ _ h => h) S5 rfl (by intro wz hz; go_simp) ?_
      try simp only [List.getElem_toArray, List.getElem_cons_succ, List.getElem_cons_zero, Act.put, List.setIfInBounds_toArray, List.set_cons_zero, List.set_cons_succ]
      refine wpAnyZ_doneB (by kernel_rfl) ?_ _
      refine HK4.out _ _ ?_
      clear HK4
      go_wp2
      refine bodyPost_ret (results_tmp3 rfl _ _ _) rfl ?_
      exact ⟨a5, c5, rfl, hA5.wide G3.size, grown_trans G3 y5⟩
    · have h3b : (V.st == 3) = false := beq_eq_false_iff_ne.2 h3
      have HX : Hid (whV true V = (⟨#[]⟩, [], 7)) := by show _ = _; unfold whV; rw [if_neg (by decide), if_neg h3]
      rw [HX.out]
      clear HX h3
      go_wp2
      refine bodyPost_ret (results_tmp3 rfl _ _ _) rfl ?_
      exact ⟨none, 0, rfl, Ans.nil _ _, G3⟩


set_option maxHeartbeats 32000000 in
theorem rwhole_any (V : Tv) (a q : Option Addr) (c d : Nat) (w : World) (hL : Rd w a V.L.length c V.L) (hG : RdG w q V.G.length d (giF V.G)) (hn : V.L.length ≤ 140737488351232) (hm : V.G.length ≤ 8796093021952) :
    Calls Try.prog 42 #[.agg (tkA V.id V.kn V.nm V.si V.en V.la V.su (.slice q V.G.length d) (.slice a V.L.length c) V.st V.ti V.pa V.tr V.li)] w fun e w' => ∃ a' c', e = .returned (.tuple #[.string (whV (tmB V.id V.kn V.nm V.si V.en V.la V.su (giF V.G) V.G.length V.L V.st V.ti V.pa V.tr V.li) V).1, .slice a' (whV (tmB V.id V.kn V.nm V.si V.en V.la V.su (giF V.G) V.G.length V.L V.st V.ti V.pa V.tr V.li) V).2.1.length c', .int .i64 ((whV (tmB V.id V.kn V.nm V.si V.en V.la V.su (giF V.G) V.G.length V.L V.st V.ti V.pa V.tr V.li) V).2.2 : Nat)]) ∧ Ans w' w.heap.size a' (whV (tmB V.id V.kn V.nm V.si V.en V.la V.su (giF V.G) V.G.length V.L V.st V.ti V.pa V.tr V.li) V).2.1.length c' (whV (tmB V.id V.kn V.nm V.si V.en V.la V.su (giF V.G) V.G.length V.L V.st V.ti V.pa V.tr V.li) V).2.1 ∧ w.grownBy w' none := by
  have i14 := Try.info_tk
  have kM := fun wz (k1 : Rd wz a V.L.length c V.L) (k : RdG wz q V.G.length d (giF V.G)) => takerMayR_any V.id V.kn V.nm V.si V.en V.la V.su q V.G.length d a V.L.length c V.st V.ti V.pa V.tr V.li (giF V.G) V.L wz k1 k hm
  have hgo := fun h => tmB_go (V := V) h
  have HGO : Hid _ := hgo
  clear hgo
  unfold tkA at kM
  generalize (tmB V.id V.kn V.nm V.si V.en V.la V.su (giF V.G) V.G.length V.L V.st V.ti V.pa V.tr V.li) = gB at kM HGO
  have b1 := BxS.new w 48 #[.int .i64 V.id, .bool V.kn, .string V.nm, .int .i64 V.si, .bool V.en, .int .i64 V.la, .int .i64 V.su, .slice q V.G.length d, .slice a V.L.length c, .int .i64 V.st, .int .i64 V.ti, .int .i64 V.pa, .int .i64 V.tr, .int .i64 V.li]
  have y1 := World.grownBy_alloc w (.cells #[.int .i64 V.id, .bool V.kn, .string V.nm, .int .i64 V.si, .bool V.en, .int .i64 V.la, .int .i64 V.su, .slice q V.G.length d, .slice a V.L.length c, .int .i64 V.st, .int .i64 V.ti, .int .i64 V.pa, .int .i64 V.tr, .int .i64 V.li] 48) none
  unfold tkA
  generalize hw1 : w.alloc (.cells #[.int .i64 V.id, .bool V.kn, .string V.nm, .int .i64 V.si, .bool V.en, .int .i64 V.la, .int .i64 V.su, .slice q V.G.length d, .slice a V.L.length c, .int .i64 V.st, .int .i64 V.ti, .int .i64 V.pa, .int .i64 V.tr, .int .i64 V.li] 48) = w1 at b1 y1
  go_enter Try.func42, Try.ntmps42
  refine wp_seq_k fun K1 hK1 => ?_
  have HK1 : Hid _ := hK1
  clear hK1
  go_wp2
  refine HK1.out _ _ ?_
  clear HK1
  clear hw1
  have s0 : True := trivial
  cases gB with
  | false =>
    go_wp2_with (first
      | (have _t := s0; clear s0; refine wpList_ldX _ rfl _ (.tmp 1) rfl w.heap.size _ rfl b1 Try.underlying48 i14 ?_; have s1 : True := trivial)
      | (go_at_call 71; have _t := s1; clear s1; refine (kM w1 (hL.keep y1) (hG.keep y1)).mono ?_; rintro e w3 ⟨rfl, y3⟩))
    refine bodyPost_ret (results_tmp3 rfl _ _ _) rfl ?_
    exact ⟨none, 0, rfl, Ans.nil _ _, grown_trans y1 y3⟩
  | true =>
    have HO : Hid _ := HGO.out rfl
    refine wp_seq_k fun K2 hK2 => ?_
    have HK2 : Hid _ := hK2
    clear hK2
    go_wp2_with (first
      | (have _t := s0; clear s0; refine wpList_ldX _ rfl _ (.tmp 1) rfl w.heap.size _ rfl b1 Try.underlying48 i14 ?_; have s1 : True := trivial)
      | (go_at_call 71; have _t := s1; clear s1; refine (kM w1 (hL.keep y1) (hG.keep y1)).mono ?_; rintro e w3 ⟨rfl, y3⟩; have s2 : True := trivial))
    refine HK2.out _ _ ?_
    clear HK2
    have G3 := grown_trans y1 y3
    have b13 := b1.keep y3 (by simp)
    have hL3 := hL.keep G3
    have y9 : w3.cell? ⟨w.heap.size, 9, none⟩ = some (.int .i64 V.st) := b13.cell 9 (by show 9 < 14; decide)
    clear b1
    by_cases h3 : V.st = 3
    · have hle := ha_le HO.out h3
      have hs0 := HO.out.si
      have HX : Hid (whV true V = (V.nm, V.L.take V.si.toNat, 0)) := by show _ = _; unfold whV; rw [if_neg (by decide), if_pos h3]
      rw [HX.out]
      obtain ⟨k, hk⟩ : ∃ k : Nat, V.si = (k : Int) := ⟨V.si.toNat, by omega⟩
      have hk2 : V.si.toNat = k := by omega
      rw [hk2]
      have hkl : k ≤ V.L.length := by omega
      have hkl2 : (V.L.take k).length = k := by rw [List.length_take]; omega
      rw [hk] at b13
      rw [hkl2]
      have HKL : Hid _ := hkl2
      rw [h3] at y9
      clear hle hs0 HX hk hk2 h3 hkl2
      refine wp_seq_k fun K4 hK4 => ?_
      have HK4 : Hid _ := hK4
      clear hK4
      go_wp2
      try simp only [Exit.then]
      refine HK4.out _ _ ?_
      clear HK4
      clear y9
      refine wp_seq_k fun K4 hK4 => ?_
      have HK4 : Hid _ := hK4
      clear hK4
      have hR := hL3.cut hkl
      have hlc := hL3.le
      have z3 := G3.size
      have Gd := grown_drew w3 none
      have b13 := b13.keep Gd (by simp)
      have hR := hR.keep Gd
      have G3 := grown_trans G3 Gd
      refine wp_regionL (fun wz => BxS wz w.heap.size 48 #[.int .i64 V.id, .bool V.kn, .string V.nm, .int .i64 (k : Int), .bool V.en, .int .i64 V.la, .int .i64 V.su, .slice q V.G.length d, .slice a V.L.length c, .int .i64 V.st, .int .i64 V.ti, .int .i64 V.pa, .int .i64 V.tr, .int .i64 V.li]) [] #[false, false, false, false, false, false, false, false, false, false, false] rfl (by kernel_rfl) ?_
      generalize w3.drew = w4 at *
      refine wpAnyZ_take [] 0 (.pointer (some ⟨w.heap.size, 2, none⟩)) rfl (by kernel_rfl) (fun _ _ _ h => h) b13 rfl (by intro wz hz; go_simp) ?_
      try simp only [List.getElem_toArray, List.getElem_cons_succ, List.getElem_cons_zero, Act.put, List.setIfInBounds_toArray, List.set_cons_zero, List.set_cons_succ]
      refine wpAnyZ_take [] 1 (.string V.nm) rfl (by kernel_rfl) (fun _ _ _ h => h) b13 rfl (by intro wz hz; have z : wz.cell? ⟨w.heap.size, 2, none⟩ = some (.string V.nm) := hz.cell 2 (by show 2 < 14; decide); go_simp) ?_
      try simp only [List.getElem_toArray, List.getElem_cons_succ, List.getElem_cons_zero, Act.put, List.setIfInBounds_toArray, List.set_cons_zero, List.set_cons_succ]
      refine wpAnyZ_take [] 2 (.pointer (some ⟨w.heap.size, 8, none⟩)) rfl (by kernel_rfl) (fun _ _ _ h => h) b13 rfl (by intro wz hz; go_simp) ?_
      try simp only [List.getElem_toArray, List.getElem_cons_succ, List.getElem_cons_zero, Act.put, List.setIfInBounds_toArray, List.set_cons_zero, List.set_cons_succ]
      refine wpAnyZ_take [] 3 (.slice a V.L.length c) rfl (by kernel_rfl) (fun _ _ _ h => h) b13 rfl (by intro wz hz; have z : wz.cell? ⟨w.heap.size, 8, none⟩ = some (.slice a V.L.length c) := hz.cell 8 (by show 8 < 14; decide); go_simp) ?_
      try simp only [List.getElem_toArray, List.getElem_cons_succ, List.getElem_cons_zero, Act.put, List.setIfInBounds_toArray, List.set_cons_zero, List.set_cons_succ]
      refine wpAnyZ_take [] 4 (.pointer (some ⟨w.heap.size, 3, none⟩)) rfl (by kernel_rfl) (fun _ _ _ h => h) b13 rfl (by intro wz hz; go_simp) ?_
      try simp only [List.getElem_toArray, List.getElem_cons_succ, List.getElem_cons_zero, Act.put, List.setIfInBounds_toArray, List.set_cons_zero, List.set_cons_succ]
      refine wpAnyZ_take [] 5 (.int .i64 (k : Int)) rfl (by kernel_rfl) (fun _ _ _ h => h) b13 rfl (by intro wz hz; have z : wz.cell? ⟨w.heap.size, 3, none⟩ = some (.int .i64 (k : Int)) := hz.cell 3 (by show 3 < 14; decide); go_simp) ?_
      try simp only [List.getElem_toArray, List.getElem_cons_succ, List.getElem_cons_zero, Act.put, List.setIfInBounds_toArray, List.set_cons_zero, List.set_cons_succ]
      have k1 : (k : Int) ≤ (c : Int) := by omega
      have k2 : k ≤ c := by omega
      have k3 : (0 : Int) ≤ (k : Int) := by omega
      have hcn : a = none → k = 0 ∧ c = 0 := fun e => by have := hL3.nil e; omega
      refine wpAnyZ_take [] 6 (.slice a k c) rfl (by kernel_rfl) (fun _ _ _ h => h) b13 rfl (by intro wz hz; cases a with | none => obtain ⟨rfl, rfl⟩ := hcn rfl; go_simp | some ad => obtain ⟨ab, ao, ar⟩ := ad; go_simp) ?_
      try simp only [List.getElem_toArray, List.getElem_cons_succ, List.getElem_cons_zero, Act.put, List.setIfInBounds_toArray, List.set_cons_zero, List.set_cons_succ]
      clear k1 k2 k3 hcn
      refine wpAnyZ_oneB 7 rfl (by kernel_rfl) (fun KK hKK => ?_)
      refine step_of_listV rfl ?_
      refine wpList_joinZ rfl _ _ rfl none 0 0 w4.heap.size [] rfl (Ans.nil _ _) (Nat.le_refl _) a k c (V.L.take k) rfl hR (by omega) ?_
      intro a5 c5 w5 hA5 y5
      rw [Nat.zero_add, List.nil_append] at hA5
      have y5 : w4.grownBy w5 none := y5
      show KK _ w5
      have S5 := b13.keep y5 (by simp)
      refine hKK _ _ (fun _ => S5) ?_
      try simp only [List.getElem_toArray, List.getElem_cons_succ, List.getElem_cons_zero, Act.put, List.setIfInBounds_toArray, List.set_cons_zero, List.set_cons_succ]
      refine wpAnyZ_take [] 8 (.string V.nm) rfl (by kernel_rfl) (fun _ _ _ h => h) S5 rfl (by intro wz hz; go_simp) ?_
      try simp only [List.getElem_toArray, List.getElem_cons_succ, List.getElem_cons_zero, Act.put, List.setIfInBounds_toArray, List.set_cons_zero, List.set_cons_succ]
      refine wpAnyZ_take [] 9 (.slice a5 k c5) rfl (by kernel_rfl) (fun _ _ _ h => h) S5 rfl (by intro wz hz; go_simp) ?_
      try simp only [List.getElem_toArray, List.getElem_cons_succ, List.getElem_cons_zero, Act.put, List.setIfInBounds_toArray, List.set_cons_zero, List.set_cons_succ]
      refine wpAnyZ_take [] 10 (.int .i64 0) rfl (by kernel_rfl) (fun _ _ _ h => h) S5 rfl (by intro wz hz; go_simp) ?_
      try simp only [List.getElem_toArray, List.getElem_cons_succ, List.getElem_cons_zero, Act.put, List.setIfInBounds_toArray, List.set_cons_zero, List.set_cons_succ]
      refine wpAnyZ_doneB (by kernel_rfl) ?_ _
      refine HK4.out _ _ ?_
      clear HK4
      go_wp2
      refine bodyPost_ret (results_tmp3 rfl _ _ _) rfl ?_
      exact ⟨a5, c5, rfl, hA5.wide G3.size, grown_trans G3 y5⟩
    · have h3b : (V.st == 3) = false := beq_eq_false_iff_ne.2 h3
      have HX : Hid (whV true V = (⟨#[]⟩, [], 7)) := by show _ = _; unfold whV; rw [if_neg (by decide), if_neg h3]
      rw [HX.out]
      clear HX h3
      go_wp2
      refine bodyPost_ret (results_tmp3 rfl _ _ _) rfl ?_
      exact ⟨none, 0, rfl, Ans.nil _ _, G3⟩
end

section
set_option maxHeartbeats 16000000 in
theorem rm_t4 {u0 u2 u4 u5 u6 u7 u8 u9 u10 u11 u12 u13 u14 u15 u16 u17 u18 u19 u20 u21 u22 u23 u24 : Value} (P : Ending → World → Prop) (w0 w : World) (g1 : Nat) (id : Int) (kn : Bool) (nm : ByteArray) (si : Int) (en : Bool) (la su : Int) (q : Option Addr) (m d : Nat) (a : Option Addr) (n c : Nat) (st ti pa tr li : Int) (G : List (Int × Int)) (hGm : G.length = m) (b1 : BxS w g1 48 #[.int .i64 id, .bool kn, .string nm, .int .i64 si, .bool en, .int .i64 la, .int .i64 su, .slice q m d, .slice a n c, .int .i64 st, .int .i64 ti, .int .i64 pa, .int .i64 tr, .int .i64 li]) (hG : RdG w q m d (giF G)) (hR : Rise (giF G) m) (l : Nat) (hl : la = (l : Int)) (hl9 : l ≤ 65536) (hm : m ≤ 65536) (g0 : w0.grownBy w none) (q1 : Option Addr) (m1 d1 : Nat) (U : List (Int × Int)) (hO : OwGi w w0.heap.size q1 m1 d1 U) (hm1 : m1 ≤ 1)
    (hP : ∀ w' q' d', OwGi w' w0.heap.size q' ((U ++ uqF (giF G) 0 la m).take 20).length d' ((U ++ uqF (giF G) 0 la m).take 20) → w0.grownBy w' none → P (.returned (.slice q' ((U ++ uqF (giF G) 0 la m).take 20).length d')) w') :
    Code.wp Try.prog (tailR 4 (Try.f76.body.getD .skip)) (bodyPost Try.prog Try.f76 P) (Act.mk (List.toArray (u0 :: (.pointer (some ⟨g1, 0, none⟩)) :: u2 :: (.slice q1 m1 d1) :: u4 :: u5 :: u6 :: u7 :: u8 :: u9 :: u10 :: u11 :: u12 :: u13 :: u14 :: u15 :: u16 :: u17 :: u18 :: u19 :: u20 :: u21 :: u22 :: u23 :: u24 :: [])) []) w := by
  conv => enter [2]; whnf
  have HP : Hid _ := hP
  clear hP
  have hul : (uqF (giF G) 0 la m).length ≤ m + 1 := uqF_len
  subst hl
  have hrw := rows_un m hR l
  have x7 : w.cell? ⟨g1, 7, none⟩ = some (.slice q m d) := b1.cell 7 (by show 7 < 14; decide)
  have x5 : w.cell? ⟨g1, 5, none⟩ = some (.int .i64 (l : Int)) := b1.cell 5 (by show 5 < 14; decide)
  have HRW : Hid _ := hrw
  clear hrw
  refine wp_seq_k fun K1 hK1 => ?_
  have HK1 : Hid _ := hK1
  clear hK1
  have s0 : True := trivial
  go_wp2_with (first
    | (go_at_call 75; have _t := s0; clear s0; refine (has_any q m d l (giF G) w hG hR (by omega) (by omega)).mono ?_; rintro e w2 ⟨gb, rfl, hgb, hB, y2⟩; have s1 : True := trivial)
    | (go_at_call 74; have _t := s1; clear s1; refine (rowsIn_any gb l (fun i => cvB (giF G) i m) false w2 hB (by omega)).mono ?_; rw [HRW.out]; generalize uqF (giF G) 0 (l : Int) m = X at *; rintro e w3 ⟨q3, d3, rfl, hO3, y3⟩; have hO3' := (hO.keep y2).keep y3; have G3 := grown_trans (grown_trans g0 y2) y3; have z3 := G3.size; have hR3 := hO3.rd; have s2 : True := trivial)
    | (at_builtin; have _t := s2; clear s2; refine wpList_joinG rfl _ _ rfl q1 m1 d1 w0.heap.size U rfl hO3' (by omega) q3 X.length d3 (giF X) rfl hR3 (by omega) ?_; intro q5 d5 w5 hO5 y5; rw [tab_giF] at hO5))
  refine HK1.out _ _ ?_
  clear HK1
  have G5 := grown_far G3 y5 hO.new
  have hl5 := hO5.len
  have z5 := G5.size
  generalize hUX : U ++ X = Y at *
  generalize hmx : m1 + X.length = k at *
  have htl : (Y.take 20).length = min k 20 := by rw [List.length_take, hl5]; omega
  rw [htl] at HP
  clear htl
  by_cases hk : k ≤ 20
  · have k1 : ¬ (20 : Int) < (k : Int) := by omega
    have e1 : min k 20 = k := by omega
    have e2 : Y.take 20 = Y := List.take_of_length_le (by omega)
    rw [e1, e2] at HP
    clear e1 e2
    go_wp2
    try go_ret
    exact HP.out w5 q5 d5 hO5 G5
  · have k1 : (20 : Int) < (k : Int) := by omega
    have e1 : min k 20 = 20 := by omega
    rw [e1] at HP
    rcases hO5.cases with ⟨_, hk0, _⟩ | ⟨g5, rfl, hkd⟩
    · omega
    · have k3 : 20 ≤ d5 := by omega
      have k2 : (20 : Int) ≤ (d5 : Int) := by omega
      have hC5 := hO5.cut 20 (by omega)
      go_wp2
      try go_ret
      exact HP.out w5 (some ⟨g5, 0, none⟩) d5 hC5 G5

set_option maxHeartbeats 16000000 in
theorem rmissing_any (id : Int) (kn : Bool) (nm : ByteArray) (si : Int) (en : Bool) (la su : Int) (q : Option Addr) (m d : Nat) (a : Option Addr) (n c : Nat) (st ti pa tr li : Int) (G : List (Int × Int)) (hGm : G.length = m) (w : World) (hG : RdG w q m d (giF G)) (hR : Rise (giF G) m) (hla : 0 ≤ la ∧ la ≤ 65536) (hm : m ≤ 65536) : Calls Try.prog 76 #[.agg (tkA id kn nm si en la su (.slice q m d) (.slice a n c) st ti pa tr li)] w fun e w' => ∃ q' d', e = .returned (.slice q' (misL kn la G).length d') ∧ OwGi w' w.heap.size q' (misL kn la G).length d' (misL kn la G) ∧ w.grownBy w' none := by
  obtain ⟨i0, hi, hz0, hz1, hz2⟩ := info_parts Try.info_pr
  obtain ⟨l, hl⟩ : ∃ l : Nat, la = (l : Int) := ⟨la.toNat, by omega⟩
  have hl9 : l ≤ 65536 := by omega
  have HL : Hid _ := hl
  clear hl
  have b1 := BxS.new w 48 #[.int .i64 id, .bool kn, .string nm, .int .i64 si, .bool en, .int .i64 la, .int .i64 su, .slice q m d, .slice a n c, .int .i64 st, .int .i64 ti, .int .i64 pa, .int .i64 tr, .int .i64 li]
  have y1 := World.grownBy_alloc w (.cells #[.int .i64 id, .bool kn, .string nm, .int .i64 si, .bool en, .int .i64 la, .int .i64 su, .slice q m d, .slice a n c, .int .i64 st, .int .i64 ti, .int .i64 pa, .int .i64 tr, .int .i64 li] 48) none
  unfold tkA
  generalize hw1 : w.alloc (.cells #[.int .i64 id, .bool kn, .string nm, .int .i64 si, .bool en, .int .i64 la, .int .i64 su, .slice q m d, .slice a n c, .int .i64 st, .int .i64 ti, .int .i64 pa, .int .i64 tr, .int .i64 li] 48) = w1 at b1 y1
  have x1 : w1.cell? ⟨w.heap.size, 1, none⟩ = some (.bool kn) := b1.cell 1 (by show 1 < 14; decide)
  have hmis : misL kn la G = ((if kn = true then [] else [((0 : Int), (0 : Int))]) ++ uqF (giF G) 0 la m).take 20 := by unfold misL; rw [hGm]
  rw [hmis]
  clear hmis
  go_enter Try.func76, Try.ntmps76
  refine wp_seq_k fun K1 hK1 => ?_
  have HK1 : Hid _ := hK1
  clear hK1
  go_wp2
  refine HK1.out _ _ ?_
  clear HK1
  refine wp_seq_k fun K1 hK1 => ?_
  have HK1 : Hid _ := hK1
  clear hK1
  go_wp2
  refine HK1.out _ _ ?_
  clear HK1
  clear hw1
  cases kn with
  | true =>
    refine wp_seq_k fun K1 hK1 => ?_
    have HK1 : Hid _ := hK1
    clear hK1
    go_wp2
    try simp only [Exit.then]
    refine HK1.out _ _ ?_
    clear HK1
    refine rm_t4 _ w w1 w.heap.size id true nm si en la su q m d a n c st ti pa tr li G hGm b1 (hG.keep y1) hR l HL.out hl9 hm y1 none 0 0 [] (OwGi.nil _ _) (by omega) ?_
    intro w' q' d' h1 h2
    exact ⟨q', d', rfl, h1, h2⟩
  | false =>
    refine wp_seq_k fun K1 hK1 => ?_
    have HK1 : Hid _ := hK1
    clear hK1
    have bA := BxS.new w1 82 #[.int .i64 0, .int .i64 0]
    have yA := World.grownBy_alloc w1 (.cells #[.int .i64 0, .int .i64 0] 82) none
    generalize hwA : w1.alloc (.cells #[.int .i64 0, .int .i64 0] 82) = wA at bA yA
    have s0 : True := trivial
    go_wp2_with (at_builtin; have _t := s0; clear s0; refine wpList_apS wA rfl _ _ 24 82 i0 (.agg #[.int .i64 0, .int .i64 0]) 2 16 Try.underlying24 hi hz0 hz1 hz2 rfl (by decide) rfl (.slice none 0 0) 0 (flG (giF []) 0) rfl (OwGi.nil wA 0).own ⟨w1.heap.size, 0, none⟩ 1 1 [.int .i64 0, .int .i64 0] rfl rfl bA.newsA (by intro u hu; simp only [List.mem_cons, List.not_mem_nil, or_false] at hu; rcases hu with rfl | rfl <;> rfl) (by decide) (by unfold maxLen; omega) (by omega) ?_; intro gx cx w8 hor u8 hO8)
    try simp only [Exit.then]
    refine HK1.out _ _ ?_
    clear HK1
    rw [← giF_push [] (0, 0) 0 rfl] at hO8
    have zA := yA.size
    have z1 := y1.size
    have hgx : w.heap.size ≤ gx := by
      rcases hor with e | e
      · cases e
      · omega
    have hO9 : OwGi w8 w.heap.size (some ⟨gx, 0, none⟩) 1 cx [(0, 0)] := ⟨hO8, rfl, fun g e => by
      have e : gx = g := Option.some.inj e
      omega⟩
    have u8 : wA.grownBy w8 none := u8
    have G8 := grown_trans yA u8
    refine rm_t4 _ w w8 w.heap.size id false nm si en la su q m d a n c st ti pa tr li G hGm (b1.keep G8 (by simp)) ((hG.keep y1).keep G8) hR l HL.out hl9 hm (grown_trans y1 G8) (some ⟨gx, 0, none⟩) 1 cx [(0, 0)] hO9 (by omega) ?_
    intro w' q' d' h1 h2
    exact ⟨q', d', rfl, h1, h2⟩

set_option maxHeartbeats 16000000 in
theorem rdone_any (id : Int) (kn : Bool) (nm : ByteArray) (si : Int) (en : Bool) (la su : Int) (q : Option Addr) (m d : Nat) (a : Option Addr) (n c : Nat) (st ti pa tr li : Int) (co : Int) (w : World) : Calls Try.prog 72 #[.agg (tkA id kn nm si en la su (.slice q m d) (.slice a n c) st ti pa tr li), .int .i64 co] w fun e w' => e = .returned (.agg (xDone id co).arr) ∧ w.grownBy w' none := by
  have i10 := Try.info_nt
  have b1 := BxS.new w 48 #[.int .i64 id, .bool kn, .string nm, .int .i64 si, .bool en, .int .i64 la, .int .i64 su, .slice q m d, .slice a n c, .int .i64 st, .int .i64 ti, .int .i64 pa, .int .i64 tr, .int .i64 li]
  have y1 := World.grownBy_alloc w (.cells #[.int .i64 id, .bool kn, .string nm, .int .i64 si, .bool en, .int .i64 la, .int .i64 su, .slice q m d, .slice a n c, .int .i64 st, .int .i64 ti, .int .i64 pa, .int .i64 tr, .int .i64 li] 48) none
  unfold tkA
  have hz1 : (w.alloc (.cells #[.int .i64 id, .bool kn, .string nm, .int .i64 si, .bool en, .int .i64 la, .int .i64 su, .slice q m d, .slice a n c, .int .i64 st, .int .i64 ti, .int .i64 pa, .int .i64 tr, .int .i64 li] 48)).heap.size = w.heap.size + 1 := by simp
  generalize hw1 : w.alloc (.cells #[.int .i64 id, .bool kn, .string nm, .int .i64 si, .bool en, .int .i64 la, .int .i64 su, .slice q m d, .slice a n c, .int .i64 st, .int .i64 ti, .int .i64 pa, .int .i64 tr, .int .i64 li] 48) = w1 at b1 y1 hz1
  have b2 := BxS.new w1 27 #[.int .i64 0, .int .i64 0, .string ⟨#[]⟩, .int .i64 0, .int .i64 0, .int .i64 0, .slice none 0 0, .slice none 0 0, .int .i64 0, .int .i64 0]
  have y2 := World.grownBy_alloc w1 (.cells #[.int .i64 0, .int .i64 0, .string ⟨#[]⟩, .int .i64 0, .int .i64 0, .int .i64 0, .slice none 0 0, .slice none 0 0, .int .i64 0, .int .i64 0] 27) none
  rw [hz1] at b2
  generalize hw2 : w1.alloc (.cells #[.int .i64 0, .int .i64 0, .string ⟨#[]⟩, .int .i64 0, .int .i64 0, .int .i64 0, .slice none 0 0, .slice none 0 0, .int .i64 0, .int .i64 0] 27) = w2 at b2 y2
  have b1 := b1.keep y2 (by simp)
  have x0 : w2.cell? ⟨w.heap.size, 0, none⟩ = some (.int .i64 id) := b1.cell 0 (by show 0 < 14; decide)
  go_enter Try.func72, Try.ntmps72
  refine wp_seq_k fun K1 hK1 => ?_
  have HK1 : Hid _ := hK1
  clear hK1
  go_wp2
  refine HK1.out _ _ ?_
  clear HK1
  clear hw1 hw2
  have s0 : True := trivial
  go_wp2_with (have _t := s0; clear s0; refine wpList_stX _ rfl _ (.tmp 4) (.tmp 8) rfl (w.heap.size + 1) _ _ rfl rfl b2 i10 rfl (by simp [Value.oneCell']) ?_; intro w3 b3 u3)
  refine bodyPost_ret (results_cellN rfl _ _ _ ⟨w.heap.size + 1, 0, none⟩ _ rfl (BxS.load (t := 27) b3 Try.underlying27 Try.info_nt)) rfl ?_
  exact ⟨rfl, grown_far (grown_trans y1 y2) u3 (fun z e => by have e := Option.some.inj e; omega)⟩
end
end Go.Proofs.Ytnimehkfnpepfaa
