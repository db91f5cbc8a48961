import Derived.Test.YtnimehkfnpepfaaGi14
import Derived.Test.YtnimehkfnpepfaaGi12
import Derived.Test.YtnimehkfnpepfaaGi5
import Derived.Test.YtnimehkfnpepfaaGi6
import Derived.Test.YtnimehkfnpepfaaGi3
import Derived.Test.YtnimehkfnpepfaaGi7
import Derived.Test.YtnimehkfnpepfaaGi4
namespace Go.Proofs.Ytnimehkfnpepfaa
open Go.RowKit
set_option maxRecDepth 100000
set_option linter.unusedVariables false
set_option linter.unusedSimpArgs false

section
section
variable {wB w w' w1 w2 : World} {gw : Nat} {id : Int} {nm : ByteArray} {mo bu st : Int} {fi : Bool} {at' ti pa tr li : Int} {a : Option Addr} {n c : Nat} {L : List Nat} {q : Option Addr} {m d : Nat} {G : List (Int × Int)} {na : Option Addr} {nn nc : Nat} {xs : List Nx}
/-- what has to go once more lies otherwise -/
theorem GW.reO (h : GW wB w gw id nm mo bu st fi at' ti pa tr li a n c L q m d G na nn nc xs) (u : w.grownBy w1 (Value.slice q m d).ownBlock) {q2 : Option Addr} {m2 d2 : Nat} {G2 : List (Int × Int)} (hO : OwGi w1 wB.heap.size q2 m2 d2 G2) (hq2 : ∀ z, (Value.slice q2 m2 d2).ownBlock = some z → (Value.slice q m d).ownBlock = some z) (u2 : w1.grownBy w2 (some gw)) (b2 : BxS w2 gw 100 #[.int .i64 id, .string nm, .slice a n c, .int .i64 mo, .int .i64 bu, .int .i64 st, .bool fi, .int .i64 at', .slice q2 m2 d2, .int .i64 ti, .int .i64 pa, .int .i64 tr, .int .i64 li, .slice na nn nc]) : GW wB w2 gw id nm mo bu st fi at' ti pa tr li a n c L q2 m2 d2 G2 na nn nc xs := by
  have hrow : ∀ z, (Value.slice q m d).ownBlock = some z → ∃ cs, BxS w z 82 cs := fun z e => own_bxS h.O.own e
  have bw1 := h.bx.keep u (fun e => by obtain ⟨cs, hb⟩ := hrow _ e.symm; exact BxS.apart h.bx hb (by decide) rfl)
  have hA := h.A.kRR u (fun z e e2 => by obtain ⟨cs, hb⟩ := hrow z e; exact own_ty h.A.own hb (by decide) e2)
  exact ⟨b2, hA.kRR u2 (fun z e e2 => by have e := Option.some.inj e; subst e; exact own_ty hA.own bw1 (by decide) e2), hO.bx bw1 (by decide) u2, (h.N.kR u (fun z e => h.sO z e)).bx bw1 (by decide) (by decide) (by decide) u2, h.gl, h.sA, (fun z e => h.sO z (hq2 z e)), grown_far (grown_far h.g u (fun z e => h.O.new z e)) u2 (fun z e => by have e := Option.some.inj e; have := h.gl; omega)⟩
theorem GW.hdO (h : GW wB w gw id nm mo bu st fi at' ti pa tr li a n c L q m d G na nn nc xs) (u : w.grownBy w1 (Value.slice q m d).ownBlock) {G2 : List (Int × Int)} (hO : OwGi w1 wB.heap.size q m d G2) : GW wB w1 gw id nm mo bu st fi at' ti pa tr li a n c L q m d G2 na nn nc xs := by
  have hrow : ∀ z, (Value.slice q m d).ownBlock = some z → ∃ cs, BxS w z 82 cs := fun z e => own_bxS h.O.own e
  have bw1 := h.bx.keep u (fun e => by obtain ⟨cs, hb⟩ := hrow _ e.symm; exact BxS.apart h.bx hb (by decide) rfl)
  have hA := h.A.kRR u (fun z e e2 => by obtain ⟨cs, hb⟩ := hrow z e; exact own_ty h.A.own hb (by decide) e2)
  exact ⟨bw1, hA, hO, h.N.kR u (fun z e => h.sO z e), h.gl, h.sA, h.sO, grown_far h.g u (fun z e => h.O.new z e)⟩
theorem KpT.ow {lo : Nat} (hO : OwGi w lo q m d G) (u : w.grownBy w1 (Value.slice q m d).ownBlock) : KpT w w1 := fun g9 cs9 hb => hb.keep u (fun e => by obtain ⟨cs, hb2⟩ := own_bxS hO.own e.symm; exact BxS.apart hb hb2 (by decide) rfl)
theorem OwGi.hd2 {lo g cap : Nat} {x y : Int} (h : OwGi w lo (some ⟨g, 0, none⟩) n cap ((x, y) :: G)) : w.cell? ⟨g, 0, none⟩ = some (.int .i64 x) ∧ w.cell? ⟨g, 1, none⟩ = some (.int .i64 y) := by
  have h0 := h.ownP.cells (g := g) rfl 0 (.int .i64 x) rfl
  have h1 := h.ownP.cells (g := g) rfl 1 (.int .i64 y) rfl
  rw [addr_add, Nat.zero_add] at h0 h1
  exact ⟨h0, h1⟩
theorem OwGi.head {lo g cap : Nat} {x y e : Int} {cur : Array Value} (h : OwGi w lo (some ⟨g, 0, none⟩) n cap ((x, y) :: G)) (hb : BxS w g 82 cur) (hb' : BxS w' g 82 (cur.setIfInBounds 0 (.int .i64 e))) : OwGi w' lo (some ⟨g, 0, none⟩) n cap ((e, y) :: G) := by
  have hl := h.len
  have hl2 : ((e, y) :: G).length = n := hl
  refine ⟨?_, hl2, h.new⟩
  rw [← flP_flG _ n hl2]
  refine ⟨by rw [flP_len]; omega, ?_⟩
  rcases h.ownP.2 with ⟨h1, _⟩ | ⟨g', cap', cur', h1, h2, h3, h4, h5, h6, h7⟩
  · simp at h1
  · simp only [Value.slice.injEq, Option.some.injEq, Addr.mk.injEq] at h1
    obtain ⟨⟨rfl, _⟩, _, rfl⟩ := h1
    have e1 : cur' = cur := by
      have hb : w.heap[g]? = some (.cells cur 82) := hb
      rw [h3] at hb
      injection hb with hb
      injection hb
    subst e1
    refine .inr ⟨g, cap, _, rfl, h2, hb', h4, h5, by simpa using h6, ?_⟩
    rw [Array.toList_setIfInBounds, List.take_set, h7]
    rfl
end

set_option maxHeartbeats 32000000 in
theorem sendAgain_any (wB w : World) (gw : Nat) (V : Gv) (T : List Nt) (p : Int × Int) (G : List (Int × Int)) (hV : V.G = p :: G) (h : GA wB w gw V T) (ho : GvO V) (hT1 : T.length ≤ 1000) : Calls Try.prog 114 #[.pointer (some ⟨gw, 0, none⟩)] w fun e w' => e = .returned (.tuple #[]) ∧ GA wB w' gw (agD V p G).1 (T ++ (agD V p G).2) ∧ KpT w w' := by
  obtain ⟨a, c, q, d, na, nc, xs, hT, h⟩ := h
  obtain ⟨id, nm, mo, bu, st, fi, at', ti, pa, tr, li, L, G0⟩ := V
  have hV : G0 = p :: G := hV
  subst hV
  have hgp := ho.gp p (List.mem_cons_self ..)
  have hmo := ho.mo
  have hn9 := ho.n9
  have hgl := ho.gl
  obtain ⟨x, y⟩ := p
  dsimp only at h hgp hmo hn9 hgl
  rw [List.length_cons] at h hgl
  have hxl : xs.length ≤ 1000 := by rw [← hT, List.length_map] at hT1; exact hT1
  have HT : Hid _ := hT
  clear hT1 ho hT
  obtain ⟨gq, rfl⟩ : ∃ gq, q = some ⟨gq, 0, none⟩ := by
    rcases h.O.own.2 with ⟨h1, h2⟩ | ⟨g, cap, cur, h1, _⟩
    · omega
    · simp only [Value.slice.injEq] at h1; exact ⟨g, h1.1⟩
  obtain ⟨p0, p1⟩ := h.O.hd2
  have x8 : w.cell? ⟨gw, 8, none⟩ = some (.slice (some ⟨gq, 0, none⟩) (G.length + 1) d) := h.bx.cell 8 (by show 8 < 14; decide)
  go_enter Try.func114, Try.ntmps114
  refine wp_seq_k fun K1 hK1 => ?_
  have HK1 : Hid _ := hK1
  clear hK1
  go_wp2
  refine HK1.out _ _ ?_
  clear HK1
  clear x8
  refine wp_seq_k fun K2 hK2 => ?_
  have HK2 : Hid _ := hK2
  clear hK2
  by_cases hzz : x = 0 ∧ y = 0
  · obtain ⟨rfl, rfl⟩ := hzz
    have ha : ∀ wz, (Op.equalIn 10000 82 (.agg #[.int .i64 0, .int .i64 0]) (.agg #[.int .i64 0, .int .i64 0])).run Try.prog wz = .ok true wz := fun wz => arr2_i64 0 0 0 0 wz
    go_wp2_with (go_at_call 113; refine (sendMeta_any _ _ _ _ _ _ _ _ _ _ _ _ _ _ _ _ _ _ _ _ _ _ _ _ _ _ h (by omega)).mono ?_; rintro e w5 ⟨rfl, ⟨na5, nc5, h5⟩, f5⟩)
    refine HK2.out _ _ ?_
    clear HK2
    have k5 := f5.kp h
    clear p0 p1 ha
    have Gd := grown_drew w5 none
    have hd := h5.keepN Gd
    refine wp_seq_k fun K4 hK4 => ?_
    have HK4 : Hid _ := hK4
    clear hK4
    have SS4 : w5.drew.cell? ⟨gq, 0, none⟩ = some (.int .i64 0) ∧ w5.drew.cell? ⟨gq, 1, none⟩ = some (.int .i64 0) := hd.O.hd2
    refine wp_regionL (fun wz => wz.cell? ⟨gq, 0, none⟩ = some (.int .i64 0) ∧ wz.cell? ⟨gq, 1, none⟩ = some (.int .i64 0)) [] #[false, false, false, false, false, false, false, false, false] rfl (by kernel_rfl) ?_
    refine wpAnyZ_take [] 0 (.pointer (some ⟨gq, 0, none⟩)) rfl (by kernel_rfl) (fun _ _ _ h => h) SS4 rfl (by rintro wz ⟨z0, z1⟩; go_simp) ?_
    try simp only [List.getElem_toArray, List.getElem_cons_succ, List.getElem_cons_zero, Act.put, List.setIfInBounds_toArray, List.set_cons_zero, List.set_cons_succ]
    refine wpAnyZ_take [] 1 (.pointer (some ⟨gq, 0, none⟩)) rfl (by kernel_rfl) (fun _ _ _ h => h) SS4 rfl (by rintro wz ⟨z0, z1⟩; go_simp) ?_
    try simp only [List.getElem_toArray, List.getElem_cons_succ, List.getElem_cons_zero, Act.put, List.setIfInBounds_toArray, List.set_cons_zero, List.set_cons_succ]
    refine wpAnyZ_take [] 2 (.pointer (some ⟨gq, 0, none⟩)) rfl (by kernel_rfl) (fun _ _ _ h => h) SS4 rfl (by rintro wz ⟨z0, z1⟩; go_simp) ?_
    try simp only [List.getElem_toArray, List.getElem_cons_succ, List.getElem_cons_zero, Act.put, List.setIfInBounds_toArray, List.set_cons_zero, List.set_cons_succ]
    refine wpAnyZ_take [] 3 (.int .i64 0) rfl (by kernel_rfl) (fun _ _ _ h => h) SS4 rfl (by rintro wz ⟨z0, z1⟩; go_simp) ?_
    try simp only [List.getElem_toArray, List.getElem_cons_succ, List.getElem_cons_zero, Act.put, List.setIfInBounds_toArray, List.set_cons_zero, List.set_cons_succ]
    refine wpAnyZ_take [] 4 (.pointer (some ⟨gq, 0, none⟩)) rfl (by kernel_rfl) (fun _ _ _ h => h) SS4 rfl (by rintro wz ⟨z0, z1⟩; go_simp) ?_
    try simp only [List.getElem_toArray, List.getElem_cons_succ, List.getElem_cons_zero, Act.put, List.setIfInBounds_toArray, List.set_cons_zero, List.set_cons_succ]
    refine wpAnyZ_take [] 5 (.pointer (some ⟨gq, 0, none⟩)) rfl (by kernel_rfl) (fun _ _ _ h => h) SS4 rfl (by rintro wz ⟨z0, z1⟩; go_simp) ?_
    try simp only [List.getElem_toArray, List.getElem_cons_succ, List.getElem_cons_zero, Act.put, List.setIfInBounds_toArray, List.set_cons_zero, List.set_cons_succ]
    refine wpAnyZ_take [] 6 (.pointer (some ⟨gq, 1, none⟩)) rfl (by kernel_rfl) (fun _ _ _ h => h) SS4 rfl (by rintro wz ⟨z0, z1⟩; go_simp) ?_
    try simp only [List.getElem_toArray, List.getElem_cons_succ, List.getElem_cons_zero, Act.put, List.setIfInBounds_toArray, List.set_cons_zero, List.set_cons_succ]
    refine wpAnyZ_take [] 7 (.int .i64 0) rfl (by kernel_rfl) (fun _ _ _ h => h) SS4 rfl (by rintro wz ⟨z0, z1⟩; go_simp) ?_
    try simp only [List.getElem_toArray, List.getElem_cons_succ, List.getElem_cons_zero, Act.put, List.setIfInBounds_toArray, List.set_cons_zero, List.set_cons_succ]
    refine wpAnyZ_take [] 8 (.bool true) rfl (by kernel_rfl) (fun _ _ _ h => h) SS4 rfl (by rintro wz ⟨z0, z1⟩; go_simp) ?_
    try simp only [List.getElem_toArray, List.getElem_cons_succ, List.getElem_cons_zero, Act.put, List.setIfInBounds_toArray, List.set_cons_zero, List.set_cons_succ]
    refine wpAnyZ_doneB (by kernel_rfl) ?_ _
    refine HK4.out _ _ ?_
    clear HK4
    refine wp_cond_true rfl ?_
    have k6 := k5.trans (KpT.none Gd)
    clear SS4 Gd h5 k5
    generalize w5.drew = w6 at *
    have x8 : w6.cell? ⟨gw, 8, none⟩ = some (.slice (some ⟨gq, 0, none⟩) (G.length + 1) d) := hd.bx.cell 8 (by show 8 < 14; decide)
    have kDl : Calls Try.prog 125 #[.slice (some ⟨gq, 0, none⟩) (G.length + 1) d, .int .i64 0, .int .i64 1] w6 _ := deleteG_any gq (G.length + 1) d wB.heap.size 0 1 ((0, 0) :: G) w6 hd.O rfl (by omega) (by omega)
    have s0 : True := trivial
    go_wp2_with (first
      | (go_at_call 125; have _t := s0; clear s0; refine Calls.mono kDl ?_; rintro e w7 ⟨rfl, hO7, u7⟩; have b7 := hd.bx.keep u7 (fun e => own_ty hd.O.own hd.bx (by decide) e.symm); have s1 : True := trivial)
      | (have _t := s1; clear s1; refine wpList_stC _ rfl _ _ _ rfl gw 8 100 _ #[.int .i64 id, .string nm, .slice a L.length c, .int .i64 mo, .int .i64 bu, .int .i64 st, .bool fi, .int .i64 at', .slice (some ⟨gq, 0, none⟩) ((G.length + 1) - 1) d, .int .i64 ti, .int .i64 pa, .int .i64 tr, .int .i64 li, .slice na5 (xs.length + 1) nc5] (.slice (some ⟨gq, 0, none⟩) ((G.length + 1) - 1) d) rfl rfl b7 (stc_slG _ _ _ _ _) (by show 8 < 14; decide) rfl ?_; intro w8 b8 u8))
    have h8 := hd.reO u7 hO7 (fun z e => e) u8 b8
    have k8 : KpT w6 w8 := (KpT.ow hd.O u7).trans (KpT.bx b7 (by decide) u8)
    try simp only [Exit.then]
    first | go_end0 | refine bodyPost_ret (results_none rfl _ _ _) rfl ?_
    refine ⟨rfl, ?_, k6.trans k8⟩
    have HX : agD (⟨id, nm, mo, bu, st, fi, at', ti, pa, tr, li, L, ((0 : Int), (0 : Int)) :: G⟩ : Gv) ((0 : Int), (0 : Int)) G = ((⟨id, nm, mo, bu, st, fi, at', ti, pa, tr, li, L, G⟩ : Gv), [ntMeta (⟨id, nm, mo, bu, st, fi, at', ti, pa, tr, li, L, ((0 : Int), (0 : Int)) :: G⟩ : Gv)]) := rfl
    rw [HX]
    exact GA.of (map_one HT.out _ _ rfl) (V := ⟨id, nm, mo, bu, st, fi, at', ti, pa, tr, li, L, G⟩) h8
  · have h3 : 0 ≤ x ∧ x < y ∧ y ≤ (L.length : Int) := hgp.resolve_left hzz
    have ha := fun wz => arr2_i64 x y 0 0 wz
    have hzb : (x == 0 && y == 0) = false := by
      by_cases e1 : x = 0
      · by_cases e2 : y = 0
        · exact absurd ⟨e1, e2⟩ hzz
        · simp [e2]
      · simp [e1]
    rw [hzb] at ha
    obtain ⟨x, rfl⟩ : ∃ k : Nat, x = (k : Int) := ⟨x.toNat, by omega⟩
    obtain ⟨y, rfl⟩ : ∃ k : Nat, y = (k : Int) := ⟨y.toNat, by omega⟩
    obtain ⟨k, hk⟩ : ∃ k : Nat, mo = (k : Int) := ⟨mo.toNat, by omega⟩
    obtain ⟨en, hen⟩ : ∃ en, enN (⟨id, nm, mo, bu, st, fi, at', ti, pa, tr, li, L, ((x : Int), (y : Int)) :: G⟩ : Gv) x y = en := ⟨_, rfl⟩
    have hen2 : en = if x + k ≤ y then x + k else y := by
      rw [← hen]; unfold enN; show (if x + mo.toNat ≤ y then x + mo.toNat else y) = _; rw [hk, Int.toNat_natCast]
    have hk1 : 1 ≤ k ∧ k ≤ 1024 := by omega
    have hle : x < en ∧ en ≤ y := by
      rw [hen2]
      by_cases e : x + k ≤ y
      · rw [if_pos e]; omega
      · rw [if_neg e]; omega
    have HKK : Hid _ := hk
    clear hk
    have HEN : Hid _ := hen
    have HEN2 : Hid _ := hen2
    have HZZ : Hid _ := hzz
    clear hen hen2 hzz hzb hgp
    refine wp_seq_k fun K3 hK3 => ?_
    have HK3 : Hid _ := hK3
    clear hK3
    go_wp2
    refine HK3.out _ _ ?_
    clear HK3
    refine wp_cond_false rfl ?_
    clear ha
    have Gd := grown_drew w none
    have hd := h.keepN Gd
    have SS : w.drew.cell? ⟨gq, 0, none⟩ = some (.int .i64 (x : Int)) ∧ w.drew.cell? ⟨gq, 1, none⟩ = some (.int .i64 (y : Int)) := hd.O.hd2
    refine wp_regionL (fun wz => wz.cell? ⟨gq, 0, none⟩ = some (.int .i64 (x : Int)) ∧ wz.cell? ⟨gq, 1, none⟩ = some (.int .i64 (y : Int))) [8] #[false, false, false, false, false, false, false, false, false] rfl (by kernel_rfl) ?_
    refine wpAnyZ_take [8] 0 (.pointer (some ⟨gq, 0, none⟩)) rfl (by kernel_rfl) (fun _ _ _ h => h) SS rfl (by rintro wz ⟨z0, z1⟩; go_simp) ?_
    try simp only [List.getElem_toArray, List.getElem_cons_succ, List.getElem_cons_zero, Act.put, List.setIfInBounds_toArray, List.set_cons_zero, List.set_cons_succ]
    refine wpAnyZ_take [8] 1 (.pointer (some ⟨gw, 0, none⟩)) rfl (by kernel_rfl) (fun _ _ _ h => h) SS rfl (by rintro wz ⟨z0, z1⟩; go_simp) ?_
    try simp only [List.getElem_toArray, List.getElem_cons_succ, List.getElem_cons_zero, Act.put, List.setIfInBounds_toArray, List.set_cons_zero, List.set_cons_succ]
    refine wpAnyZ_take [8] 2 (.pointer (some ⟨gq, 0, none⟩)) rfl (by kernel_rfl) (fun _ _ _ h => h) SS rfl (by rintro wz ⟨z0, z1⟩; go_simp) ?_
    try simp only [List.getElem_toArray, List.getElem_cons_succ, List.getElem_cons_zero, Act.put, List.setIfInBounds_toArray, List.set_cons_zero, List.set_cons_succ]
    refine wpAnyZ_take [8] 3 (.pointer (some ⟨gq, 0, none⟩)) rfl (by kernel_rfl) (fun _ _ _ h => h) SS rfl (by rintro wz ⟨z0, z1⟩; go_simp) ?_
    try simp only [List.getElem_toArray, List.getElem_cons_succ, List.getElem_cons_zero, Act.put, List.setIfInBounds_toArray, List.set_cons_zero, List.set_cons_succ]
    refine wpAnyZ_take [8] 4 (.agg #[.int .i64 (x : Int), .int .i64 (y : Int)]) rfl (by kernel_rfl) (fun _ _ _ h => h) SS rfl (by rintro wz ⟨z0, z1⟩; go_simp) ?_
    try simp only [List.getElem_toArray, List.getElem_cons_succ, List.getElem_cons_zero, Act.put, List.setIfInBounds_toArray, List.set_cons_zero, List.set_cons_succ]
    refine wpAnyZ_take [7, 8] 6 (.pointer (some ⟨gq, 0, none⟩)) rfl (by kernel_rfl) (fun _ _ _ h => h) SS rfl (by rintro wz ⟨z0, z1⟩; go_simp) ?_
    try simp only [List.getElem_toArray, List.getElem_cons_succ, List.getElem_cons_zero, Act.put, List.setIfInBounds_toArray, List.set_cons_zero, List.set_cons_succ]
    clear p0 p1
    have kG := KpT.none Gd
    clear Gd
    generalize w.drew = w2 at *
    refine wpAnyZ_oneB 5 rfl (by kernel_rfl) (fun KK hKK => ?_)
    go_simp
    go_at_call 115
    refine (sendPiece_any wB w2 gw id nm mo bu st fi at' ti pa tr li a L.length c L _ _ d _ na xs.length nc xs hd x y k en HKK.out (by omega) (by omega) (by omega) (by omega) hn9 (by omega) HEN2.out).mono ?_
    rintro e w5 ⟨rfl, ⟨na5, nc5, a5, c5, h5⟩, f5⟩
    dsimp only
    have SS5 := h5.O.hd2
    refine hKK _ _ (fun _ => SS5) ?_
    try simp only [List.getElem_toArray, List.getElem_cons_succ, List.getElem_cons_zero, Act.put, List.setIfInBounds_toArray, List.set_cons_zero, List.set_cons_succ]
    have k5 := kG.trans (f5.kp hd)
    refine wpAnyZ_take [8] 7 (.pointer (some ⟨gq, 0, none⟩)) rfl (by kernel_rfl) (fun _ _ _ h => h) SS5 rfl (by rintro wz ⟨z0, z1⟩; go_simp) ?_
    try simp only [List.getElem_toArray, List.getElem_cons_succ, List.getElem_cons_zero, Act.put, List.setIfInBounds_toArray, List.set_cons_zero, List.set_cons_succ]
    refine wpAnyZ_oneB 8 rfl (by kernel_rfl) (fun KK hKK => ?_)
    obtain ⟨cur, bq⟩ := own_bxS h5.O.own (g := gq) rfl
    refine step_stCd _ rfl _ _ _ rfl gq 0 82 _ (cur.setIfInBounds 0 (.int .i64 (en : Int))) (.int .i64 (en : Int)) rfl rfl bq (fun w' h1 h2 => stc_int _ _ _ _ h1 h2) (by
      rcases h5.O.own.2 with ⟨k1, _⟩ | ⟨g', cap', cur', k1, k2, k3, k4, k5, k6, k7⟩
      · simp at k1
      · simp only [Value.slice.injEq, Option.some.injEq, Addr.mk.injEq] at k1
        obtain ⟨⟨rfl, _⟩, _, rfl⟩ := k1
        have bq : w5.heap[gq]? = some (.cells cur 82) := bq
        rw [k3] at bq
        injection bq with bq
        injection bq with bq
        rw [← bq, k6]
        omega) rfl ?_
    intro w6 b6 u6
    refine hKK _ _ (fun h => absurd (by decide) h) ?_
    try simp only [List.getElem_toArray, List.getElem_cons_succ, List.getElem_cons_zero, Act.put, List.setIfInBounds_toArray, List.set_cons_zero, List.set_cons_succ]
    refine wpAnyZ_doneB (by kernel_rfl) ?_ _
    have hO6 := h5.O.head bq b6
    have h6 := h5.hdO u6 hO6
    have k6 := k5.trans (KpT.ow h5.O u6)
    try simp only [Exit.then]
    refine HK2.out _ _ ?_
    clear HK2
    clear SS SS5 h5 f5 k5 u6 b6 bq hO6 h hd kG
    have Gd := grown_drew w6 none
    have hd := h6.keepN Gd
    refine wp_seq_k fun K4 hK4 => ?_
    have HK4 : Hid _ := hK4
    clear hK4
    by_cases hey : en = y
    · subst hey
      have HX : Hid (agD (⟨id, nm, mo, bu, st, fi, at', ti, pa, tr, li, L, ((x : Int), (en : Int)) :: G⟩ : Gv) ((x : Int), (en : Int)) G = ((⟨id, nm, mo, bu, st, fi, at', ti, pa, tr, li, L, G⟩ : Gv), [ntPie (⟨id, nm, mo, bu, st, fi, at', ti, pa, tr, li, L, ((x : Int), (en : Int)) :: G⟩ : Gv) x en])) := by
        show _ = _
        unfold agD
        rw [if_neg HZZ.out, Int.toNat_natCast, Int.toNat_natCast, HEN.out, if_pos rfl]
      have SS4 : w6.drew.cell? ⟨gq, 0, none⟩ = some (.int .i64 (en : Int)) ∧ w6.drew.cell? ⟨gq, 1, none⟩ = some (.int .i64 (en : Int)) := hd.O.hd2
      refine wp_regionL (fun wz => wz.cell? ⟨gq, 0, none⟩ = some (.int .i64 (en : Int)) ∧ wz.cell? ⟨gq, 1, none⟩ = some (.int .i64 (en : Int))) [] #[false, false, false, false, false, false, false, false, false] rfl (by kernel_rfl) ?_
      refine wpAnyZ_take [] 0 (.pointer (some ⟨gq, 0, none⟩)) rfl (by kernel_rfl) (fun _ _ _ h => h) SS4 rfl (by rintro wz ⟨z0, z1⟩; go_simp) ?_
      try simp only [List.getElem_toArray, List.getElem_cons_succ, List.getElem_cons_zero, Act.put, List.setIfInBounds_toArray, List.set_cons_zero, List.set_cons_succ]
      refine wpAnyZ_take [] 1 (.pointer (some ⟨gq, 0, none⟩)) rfl (by kernel_rfl) (fun _ _ _ h => h) SS4 rfl (by rintro wz ⟨z0, z1⟩; go_simp) ?_
      try simp only [List.getElem_toArray, List.getElem_cons_succ, List.getElem_cons_zero, Act.put, List.setIfInBounds_toArray, List.set_cons_zero, List.set_cons_succ]
      refine wpAnyZ_take [] 2 (.pointer (some ⟨gq, 0, none⟩)) rfl (by kernel_rfl) (fun _ _ _ h => h) SS4 rfl (by rintro wz ⟨z0, z1⟩; go_simp) ?_
      try simp only [List.getElem_toArray, List.getElem_cons_succ, List.getElem_cons_zero, Act.put, List.setIfInBounds_toArray, List.set_cons_zero, List.set_cons_succ]
      refine wpAnyZ_take [] 3 (.int .i64 (en : Int)) rfl (by kernel_rfl) (fun _ _ _ h => h) SS4 rfl (by rintro wz ⟨z0, z1⟩; go_simp) ?_
      try simp only [List.getElem_toArray, List.getElem_cons_succ, List.getElem_cons_zero, Act.put, List.setIfInBounds_toArray, List.set_cons_zero, List.set_cons_succ]
      refine wpAnyZ_take [] 4 (.pointer (some ⟨gq, 0, none⟩)) rfl (by kernel_rfl) (fun _ _ _ h => h) SS4 rfl (by rintro wz ⟨z0, z1⟩; go_simp) ?_
      try simp only [List.getElem_toArray, List.getElem_cons_succ, List.getElem_cons_zero, Act.put, List.setIfInBounds_toArray, List.set_cons_zero, List.set_cons_succ]
      refine wpAnyZ_take [] 5 (.pointer (some ⟨gq, 0, none⟩)) rfl (by kernel_rfl) (fun _ _ _ h => h) SS4 rfl (by rintro wz ⟨z0, z1⟩; go_simp) ?_
      try simp only [List.getElem_toArray, List.getElem_cons_succ, List.getElem_cons_zero, Act.put, List.setIfInBounds_toArray, List.set_cons_zero, List.set_cons_succ]
      refine wpAnyZ_take [] 6 (.pointer (some ⟨gq, 1, none⟩)) rfl (by kernel_rfl) (fun _ _ _ h => h) SS4 rfl (by rintro wz ⟨z0, z1⟩; go_simp) ?_
      try simp only [List.getElem_toArray, List.getElem_cons_succ, List.getElem_cons_zero, Act.put, List.setIfInBounds_toArray, List.set_cons_zero, List.set_cons_succ]
      refine wpAnyZ_take [] 7 (.int .i64 (en : Int)) rfl (by kernel_rfl) (fun _ _ _ h => h) SS4 rfl (by rintro wz ⟨z0, z1⟩; go_simp) ?_
      try simp only [List.getElem_toArray, List.getElem_cons_succ, List.getElem_cons_zero, Act.put, List.setIfInBounds_toArray, List.set_cons_zero, List.set_cons_succ]
      refine wpAnyZ_take [] 8 (.bool true) rfl (by kernel_rfl) (fun _ _ _ h => h) SS4 rfl (by rintro wz ⟨z0, z1⟩; go_simp) ?_
      try simp only [List.getElem_toArray, List.getElem_cons_succ, List.getElem_cons_zero, Act.put, List.setIfInBounds_toArray, List.set_cons_zero, List.set_cons_succ]
      refine wpAnyZ_doneB (by kernel_rfl) ?_ _
      refine HK4.out _ _ ?_
      clear HK4
      refine wp_cond_true rfl ?_
      have k7 := k6.trans (KpT.none Gd)
      clear SS4 Gd h6 k6
      generalize w6.drew = w6' at *
      have x8 : w6'.cell? ⟨gw, 8, none⟩ = some (.slice (some ⟨gq, 0, none⟩) (G.length + 1) d) := hd.bx.cell 8 (by show 8 < 14; decide)
      have kDl : Calls Try.prog 125 #[.slice (some ⟨gq, 0, none⟩) (G.length + 1) d, .int .i64 0, .int .i64 1] w6' _ := deleteG_any gq (G.length + 1) d wB.heap.size 0 1 (((en : Int), (en : Int)) :: G) w6' hd.O rfl (by omega) (by omega)
      have s0 : True := trivial
      go_wp2_with (first
        | (go_at_call 125; have _t := s0; clear s0; refine Calls.mono kDl ?_; rintro e w7 ⟨rfl, hO7, u7⟩; have b7 := hd.bx.keep u7 (fun e => own_ty hd.O.own hd.bx (by decide) e.symm); have s1 : True := trivial)
        | (have _t := s1; clear s1; refine wpList_stC _ rfl _ _ _ rfl gw 8 100 _ #[.int .i64 id, .string nm, .slice a L.length c, .int .i64 mo, .int .i64 bu, .int .i64 st, .bool fi, .int .i64 at', .slice (some ⟨gq, 0, none⟩) ((G.length + 1) - 1) d, .int .i64 ti, .int .i64 pa, .int .i64 tr, .int .i64 li, .slice na5 (xs.length + 1) nc5] (.slice (some ⟨gq, 0, none⟩) ((G.length + 1) - 1) d) rfl rfl b7 (stc_slG _ _ _ _ _) (by show 8 < 14; decide) rfl ?_; intro w8 b8 u8))
      have h8 := hd.reO u7 hO7 (fun z e => e) u8 b8
      have k8 : KpT w6' w8 := (KpT.ow hd.O u7).trans (KpT.bx b7 (by decide) u8)
      try simp only [Exit.then]
      first | go_end0 | refine bodyPost_ret (results_none rfl _ _ _) rfl ?_
      refine ⟨rfl, ?_, k7.trans k8⟩
      refine (show GA wB w8 gw (agD _ _ _).1 (T ++ (agD _ _ _).2) from ?_)
      rw [HX.out]
      exact GA.of (map_one HT.out _ _ rfl) (V := ⟨id, nm, mo, bu, st, fi, at', ti, pa, tr, li, L, G⟩) h8
    · have hey2 : ((en : Int) == (y : Int)) = false := beq_eq_false_iff_ne.2 (by omega)
      have HX : Hid (agD (⟨id, nm, mo, bu, st, fi, at', ti, pa, tr, li, L, ((x : Int), (y : Int)) :: G⟩ : Gv) ((x : Int), (y : Int)) G = ((⟨id, nm, mo, bu, st, fi, at', ti, pa, tr, li, L, ((en : Int), (y : Int)) :: G⟩ : Gv), [ntPie (⟨id, nm, mo, bu, st, fi, at', ti, pa, tr, li, L, ((x : Int), (y : Int)) :: G⟩ : Gv) x en])) := by
        show _ = _
        unfold agD
        rw [if_neg HZZ.out, Int.toNat_natCast, Int.toNat_natCast, HEN.out, if_neg hey]
      have SS4 : w6.drew.cell? ⟨gq, 0, none⟩ = some (.int .i64 (en : Int)) ∧ w6.drew.cell? ⟨gq, 1, none⟩ = some (.int .i64 (y : Int)) := hd.O.hd2
      refine wp_regionL (fun wz => wz.cell? ⟨gq, 0, none⟩ = some (.int .i64 (en : Int)) ∧ wz.cell? ⟨gq, 1, none⟩ = some (.int .i64 (y : Int))) [] #[false, false, false, false, false, false, false, false, false] rfl (by kernel_rfl) ?_
      refine wpAnyZ_take [] 0 (.pointer (some ⟨gq, 0, none⟩)) rfl (by kernel_rfl) (fun _ _ _ h => h) SS4 rfl (by rintro wz ⟨z0, z1⟩; go_simp) ?_
      try simp only [List.getElem_toArray, List.getElem_cons_succ, List.getElem_cons_zero, Act.put, List.setIfInBounds_toArray, List.set_cons_zero, List.set_cons_succ]
      refine wpAnyZ_take [] 1 (.pointer (some ⟨gq, 0, none⟩)) rfl (by kernel_rfl) (fun _ _ _ h => h) SS4 rfl (by rintro wz ⟨z0, z1⟩; go_simp) ?_
      try simp only [List.getElem_toArray, List.getElem_cons_succ, List.getElem_cons_zero, Act.put, List.setIfInBounds_toArray, List.set_cons_zero, List.set_cons_succ]
      refine wpAnyZ_take [] 2 (.pointer (some ⟨gq, 0, none⟩)) rfl (by kernel_rfl) (fun _ _ _ h => h) SS4 rfl (by rintro wz ⟨z0, z1⟩; go_simp) ?_
      try simp only [List.getElem_toArray, List.getElem_cons_succ, List.getElem_cons_zero, Act.put, List.setIfInBounds_toArray, List.set_cons_zero, List.set_cons_succ]
      refine wpAnyZ_take [] 3 (.int .i64 (en : Int)) rfl (by kernel_rfl) (fun _ _ _ h => h) SS4 rfl (by rintro wz ⟨z0, z1⟩; go_simp) ?_
      try simp only [List.getElem_toArray, List.getElem_cons_succ, List.getElem_cons_zero, Act.put, List.setIfInBounds_toArray, List.set_cons_zero, List.set_cons_succ]
      refine wpAnyZ_take [] 4 (.pointer (some ⟨gq, 0, none⟩)) rfl (by kernel_rfl) (fun _ _ _ h => h) SS4 rfl (by rintro wz ⟨z0, z1⟩; go_simp) ?_
      try simp only [List.getElem_toArray, List.getElem_cons_succ, List.getElem_cons_zero, Act.put, List.setIfInBounds_toArray, List.set_cons_zero, List.set_cons_succ]
      refine wpAnyZ_take [] 5 (.pointer (some ⟨gq, 0, none⟩)) rfl (by kernel_rfl) (fun _ _ _ h => h) SS4 rfl (by rintro wz ⟨z0, z1⟩; go_simp) ?_
      try simp only [List.getElem_toArray, List.getElem_cons_succ, List.getElem_cons_zero, Act.put, List.setIfInBounds_toArray, List.set_cons_zero, List.set_cons_succ]
      refine wpAnyZ_take [] 6 (.pointer (some ⟨gq, 1, none⟩)) rfl (by kernel_rfl) (fun _ _ _ h => h) SS4 rfl (by rintro wz ⟨z0, z1⟩; go_simp) ?_
      try simp only [List.getElem_toArray, List.getElem_cons_succ, List.getElem_cons_zero, Act.put, List.setIfInBounds_toArray, List.set_cons_zero, List.set_cons_succ]
      refine wpAnyZ_take [] 7 (.int .i64 (y : Int)) rfl (by kernel_rfl) (fun _ _ _ h => h) SS4 rfl (by rintro wz ⟨z0, z1⟩; go_simp) ?_
      try simp only [List.getElem_toArray, List.getElem_cons_succ, List.getElem_cons_zero, Act.put, List.setIfInBounds_toArray, List.set_cons_zero, List.set_cons_succ]
      refine wpAnyZ_take [] 8 (.bool false) rfl (by kernel_rfl) (fun _ _ _ h => h) SS4 rfl (by rintro wz ⟨z0, z1⟩; go_simp) ?_
      try simp only [List.getElem_toArray, List.getElem_cons_succ, List.getElem_cons_zero, Act.put, List.setIfInBounds_toArray, List.set_cons_zero, List.set_cons_succ]
      refine wpAnyZ_doneB (by kernel_rfl) ?_ _
      refine HK4.out _ _ ?_
      clear HK4
      refine wp_cond_false rfl ?_
      refine wp_skip ?_
      try simp only [Exit.then]
      first | go_end0 | refine bodyPost_ret (results_none rfl _ _ _) rfl ?_
      refine ⟨rfl, ?_, k6.trans (KpT.none Gd)⟩
      refine (show GA wB _ gw (agD _ _ _).1 (T ++ (agD _ _ _).2) from ?_)
      rw [HX.out]
      exact GA.of (map_one HT.out _ _ rfl) (V := ⟨id, nm, mo, bu, st, fi, at', ti, pa, tr, li, L, ((en : Int), (y : Int)) :: G⟩) hd
end
end Go.Proofs.Ytnimehkfnpepfaa
