import Derived.Test.YtpcejajijaphbaaPc7
namespace Go.Proofs.Ytpcejajijaphbaa
open Go.RowKit
set_option maxRecDepth 100000
set_option linter.unusedVariables false
set_option linter.unusedSimpArgs false

section
theorem wpList_mk0R (w : World) {ops : Array Oper} {rest : List Oper} {o : Oper} {a : Act} {Q : Exit → Act → World → Prop} (hg : o.guard = none) (l c : Operand)
    (hop : o.op = Op.makeSlice 23 l c) (n : Nat) (hl : a.eval l = .int .i64 0) (hc : a.eval c = .int .i64 (n : Int)) (hn : n ≤ 1000)
    (hK : ∀ w', AnsX 3 w' w.heap.size (some ⟨w.heap.size, 0, none⟩) 0 n [] → w.grownBy w' none → wpList Try.prog ops Q rest (a.put o.dst (.slice (some ⟨w.heap.size, 0, none⟩) 0 n)) w') :
    wpList Try.prog ops Q (o :: rest) a w := by
  obtain ⟨i0, hi, hz0, hz1, hz2⟩ := info_parts Try.elN.inf
  obtain ⟨w', hrun, r1, r2⟩ := run_make_own (P := Try.prog) w w.heap.size 23 3 i0 (.int .i64 0) 1 Try.underlying23 hi hz0 hz1 .i64 .i64 n (by rw [hz2]; omega) (by unfold maxLen; omega) (Nat.le_refl _)
  refine wpList_plain hg fun K hK2 => ?_
  unfold Oper.wp
  simp [execOp, hop, hl, hc, hrun, Result.andThen]
  exact hK2 _ _ (hK w' ⟨own_baseX r1, (fun u h => by cases h), fun g h => by have e : w.heap.size = g := Option.some.inj h; omega⟩ r2)
def szV : Value → Nat
  | .slice _ n _ => n
  | _ => 0
set_option maxHeartbeats 16000000 in
theorem places_any (w : World) (lo g0 : Nat) (L : List Nat) (wo : Int) (hN : Nd w lo L wo g0) (hL : L.length ≤ 1000) :
    Calls Try.prog 15 #[.pointer (some ⟨g0, 0, none⟩)] w fun e w' => ∃ a c, e = .returned (.slice a L.length c) ∧ AnsX 3 w' w.heap.size a L.length c (L.map fun (p : Nat) => Value.int .i64 (p : Int)) ∧ w.grownBy w' none := by
  obtain ⟨p0, _, b0⟩ := Nd.box (r := (L, wo)) hN
  have c3 : w.cell? ⟨g0, 3, none⟩ = some (.int .i64 (L.length : Int)) := b0.cell 3 (by show 3 < 4; decide)
  go_enter Try.func15, Try.ntmps15
  refine wp_seq_k fun K0 hK0 => ?_
  have HK0 : Hid _ := hK0
  clear hK0
  go_wp2
  refine HK0.out _ _ ?_
  clear HK0
  refine wp_seq_k fun K1 hK1 => ?_
  have HK1 : Hid _ := hK1
  clear hK1
  go_wp2_with (at_make; refine wpList_mk0R w rfl _ _ rfl L.length rfl rfl hL ?_; intro w2 hA2 G2)
  refine HK1.out _ _ ?_
  clear HK1
  refine wp_seq_k fun K2 hK2 => ?_
  have HK2 : Hid _ := hK2
  clear hK2
  go_wp2
  go_loopw [0, 3] (fun v0 v3 wr => ∃ (k g2 : Nat) (wo2 : Int) (a : Option Addr) (c : Nat), k ≤ L.length ∧ v0 = .pointer (some ⟨g2, 0, none⟩) ∧ v3 = .slice a k c ∧ Nd wr lo (L.drop k) wo2 g2 ∧ AnsX 3 wr w.heap.size a k c ((L.take k).map fun (p : Nat) => Value.int .i64 (p : Int)) ∧ w.grownBy wr none) (fun v0 v3 _ => L.length - szV v3)
  case atStart => exact ⟨0, g0, wo, _, _, Nat.zero_le _, rfl, rfl, hN.keep G2, hA2, G2⟩
  case round =>
    obtain ⟨k, g2, wo2, a, c, hk, rfl, rfl, hNr, hA, GR⟩ := hrel
    by_cases hlt : k < L.length
    · have hdr : L.drop k = L[k]'hlt :: L.drop (k + 1) := List.drop_eq_getElem_cons hlt
      obtain ⟨i, hi⟩ : ∃ i, L[k]'hlt = i := ⟨_, rfl⟩
      have htk : L.take (k + 1) = L.take k ++ [i] := by
        rw [List.take_add_one, List.getElem?_eq_getElem hlt, hi]
        rfl
      rw [hi] at hdr
      rw [hdr] at hNr
      obtain ⟨_, g', wo', bk, hN'⟩ := hNr
      have d3 : wr.cell? ⟨g2, 3, none⟩ = some (.int .i64 (((L.drop (k + 1)).length + 1 : Nat) : Int)) := bk.cell 3 (by show 3 < 4; decide)
      have d0 : wr.cell? ⟨g2, 0, none⟩ = some (.int .i64 (i : Int)) := bk.cell 0 (by show 0 < 4; decide)
      have d1 : wr.cell? ⟨g2, 1, none⟩ = some (.pointer (some ⟨g', 0, none⟩)) := bk.cell 1 (by show 1 < 4; decide)
      obtain ⟨m, hm⟩ : ∃ m, (L.drop (k + 1)).length = m := ⟨_, rfl⟩
      rw [hm] at d3
      have hpos : (0 : Int) < ((m + 1 : Nat) : Int) := by omega
      have HT : Hid _ := htk
      clear htk hi hdr hm
      refine wp_seq_k fun K3 hK3 => ?_
      have HK3 : Hid _ := hK3
      clear hK3
      go_wp2
      refine HK3.out _ _ ?_
      clear HK3
      refine wp_seq_k fun K4 hK4 => ?_
      have HK4 : Hid _ := hK4
      clear hK4
      refine wp_block ?_
      go_wp2_with (at_builtin; refine wpList_psX Try.elN wr (.int .i64 (i : Int)) rfl rfl _ _ rfl a k c w.heap.size _ rfl hA GR.size rfl (by omega) ?_; intro gx cx w8 hA8 u8 hx8)
      (try simp only [Exit.inBlock, Exit.then])
      refine HK4.out _ _ ?_
      clear HK4
      have bk8 := bk.keep u8 (fun e => hA.bxR bk (by decide) e.symm)
      have d18 : w8.cell? ⟨g2, 1, none⟩ = some (.pointer (some ⟨g', 0, none⟩)) := bk8.cell 1 (by show 1 < 4; decide)
      go_wp2
      go_roundw
      case rel =>
        refine ⟨k + 1, g', wo', some ⟨gx, 0, none⟩, cx, by omega, rfl, rfl, Nd.kR u8 (fun z e => by obtain ⟨t, cs, b, ht⟩ := hA.tyR z e; exact ⟨t, cs, b, by rw [ht]; decide⟩) _ _ _ hN', ?_, grown_far GR u8 (fun z e => hA.new z e)⟩
        rw [HT.out, List.map_append]
        exact hA8
      case measure => show L.length - (k + 1) < L.length - k; omega
    · obtain rfl : k = L.length := by omega
      have e1 : L.drop L.length = [] := List.drop_length
      have e2 : L.take L.length = L := List.take_length
      rw [e1] at hNr
      rw [e2] at hA
      obtain ⟨_, _, bk⟩ := hNr
      have d3 : wr.cell? ⟨g2, 3, none⟩ = some (.int .i64 0) := bk.cell 3 (by show 3 < 4; decide)
      clear e1 e2
      go_wp2
      refine HK2.out _ _ ?_
      clear HK2
      go_wp2
      first | go_ret | skip
      exact ⟨a, c, rfl, hA, GR⟩
theorem withinR_any (n a b : Int) (w : World) (h1 : a ≤ n) (h2 : n ≤ b) : Calls Try.prog 16 #[.int .i64 n, .int .i64 a, .int .i64 b] w fun e w' => e = .returned (.bool true) ∧ w' = w := by
  have l1 : a ≤ n := h1
  go_enter Try.func16, Try.ntmps16
  go_wp2
  first | go_ret | skip
  exact ⟨rfl, rfl⟩
set_option maxHeartbeats 8000000 in
theorem wrongPass_ok (p : Pa) (h : p.ok) (w : World) : Calls Try.prog 18 #[.agg p.arr] w fun e w' => e = .returned (.bool false) ∧ w.grownBy w' none := by
  obtain ⟨p0, p1, p2, p3⟩ := p
  obtain ⟨h0, h1, h2, h3⟩ := h
  dsimp only [Pa.arr] at *
  have G := World.grownBy_alloc w (.cells #[.int .i64 p0, .int .i64 p1, .int .i64 p2, .int .i64 p3] 29) none
  have hb : p1 + 1 ≤ 1000001 := by omega
  have HA := fun wz => withinR_any p0 0 31 wz h0.1 h0.2
  have HB := fun wz => withinR_any p1 0 1000000 wz h1.1 h1.2
  have HC := fun wz => withinR_any p2 (p1 + 1) 1000000 wz h2.1 h2.2
  have HD := fun wz => withinR_any p3 0 1000000 wz h3.1 h3.2
  go_enter Try.func18, Try.ntmps18
  have s1 : True := trivial
  go_wp2_with (first
    | (have _t := s1; clear s1; go_at_call 16; refine (HA _).mono ?_; rintro e wx ⟨rfl, hwx⟩; rw [hwx]; clear hwx; have s2 : True := trivial)
    | (have _t := s2; clear s2; go_at_call 16; refine (HB _).mono ?_; rintro e wx ⟨rfl, hwx⟩; rw [hwx]; clear hwx; have s3 : True := trivial)
    | (have _t := s3; clear s3; go_at_call 16; refine (HC _).mono ?_; rintro e wx ⟨rfl, hwx⟩; rw [hwx]; clear hwx; have s4 : True := trivial)
    | (have _t := s4; clear s4; go_at_call 16; refine (HD _).mono ?_; rintro e wx ⟨rfl, hwx⟩; rw [hwx]; clear hwx))
  first | go_ret | skip
  exact ⟨rfl, G⟩
set_option maxHeartbeats 8000000 in
theorem indexF_ok (w : World) (la : Option Addr) (ln lc : Nat) (F : Nat → Pa) (hP : RdPa w la ln lc F) (hok : ∀ i, (F i).ok) (h200 : ln ≤ 200) :
    Calls Try.prog 25 #[.slice la ln lc, .func (.func 18) #[] #[]] w fun e w' => e = .returned (.int .i64 (-1)) ∧ w.grownBy w' none := by
  have hmx := hP.max
  have hple := hP.le
  unfold maxLen at hmx
  go_enter Try.func25, Try.ntmps25
  go_wp2
  go_loopw [8, 5] (fun v8 v5 wr => ∃ k : Nat, k ≤ ln ∧ v8 = .int .i64 k ∧ w.grownBy wr none) (fun v8 v5 _ => ln - (intOf v8).toNat)
  case atStart => exact ⟨0, Nat.zero_le _, rfl, World.grownBy.refl _ _⟩
  case round =>
    obtain ⟨k, hk, rfl, GR⟩ := hrel
    by_cases hlt : k < ln
    · have lk : (k : Int) < (ln : Int) := by omega
      obtain ⟨lb, lf, hla, _, hlr⟩ := (hP.keep GR).at' (by omega)
      have hrk := hlr k hlt
      have HWp := fun wz => wrongPass_ok (F k) (hok k) wz
      subst hla
      clear hlr
      have s1 : True := trivial
      go_wp2_with (first
        | (have _t := s1; clear s1; refine wpList_load_mid rfl _ (.tmp 14) rfl lb (lf + k * 4) rfl (F k).cells _ hrk Try.underlying29 rfl Try.info_pa ?_; have s2 : True := trivial)
        | (have _t := s2; clear s2; go_at_call 18; refine (HWp _).mono ?_; rintro e w6 ⟨rfl, y6⟩))
      go_roundw
      case rel => exact ⟨k + 1, by omega, by go_num, grown_trans GR y6⟩
      case measure => simp [intOf] <;> omega
    · obtain rfl : k = ln := by omega
      have lk : ¬ (k : Int) < (k : Int) := by omega
      go_wp2
      first | go_ret | skip
      exact ⟨rfl, GR⟩
set_option maxHeartbeats 8000000 in
theorem wrongPasses_ok (w : World) (la : Option Addr) (ln lc : Nat) (F : Nat → Pa) (g : Int) (hP : RdPa w la ln lc F) (hok : ∀ i, (F i).ok) (h200 : ln ≤ 200) (hg : 0 ≤ g ∧ g ≤ 1000) :
    Calls Try.prog 13 #[.slice la ln lc, .int .i64 g] w fun e w' => e = .returned (.int .i64 0) ∧ w.grownBy w' none := by
  have l2 : ¬ (200 : Int) < (ln : Int) := by omega
  have HIx := indexF_ok w la ln lc F hP hok h200
  have HCo : Calls Try.prog 17 #[.slice la ln lc, .func (.func 18) #[] #[]] w fun e w' => e = .returned (.bool false) ∧ w.grownBy w' none := by
    go_enter Try.func17, Try.ntmps17
    go_wp2_with (go_at_call 25; refine HIx.mono ?_; rintro e w6 ⟨rfl, y6⟩)
    first | go_ret | skip
    exact ⟨rfl, y6⟩
  have HG := fun wz => withinR_any g 0 1000 wz hg.1 hg.2
  go_enter Try.func13, Try.ntmps13
  have s1 : True := trivial
  go_wp2_with (first
    | (have _t := s1; clear s1; go_at_call 16; refine (HG _).mono ?_; rintro e wx ⟨rfl, hwx⟩; rw [hwx]; clear hwx; have s2 : True := trivial)
    | (have _t := s2; clear s2; go_at_call 17; refine HCo.mono ?_; rintro e w6 ⟨rfl, y6⟩))
  first | go_ret | skip
  exact ⟨rfl, y6⟩
set_option maxHeartbeats 16000000 in
/-- Choose, of passes that may be -/
theorem choose_ok (w : World) (la : Option Addr) (ln lc : Nat) (F : Nat → Pa) (g : Int) (hP : RdPa w la ln lc F) (hok : ∀ i, (F i).ok) (h200 : ln ≤ 200) (hg : 0 ≤ g ∧ g ≤ 1000) :
    Calls Try.prog 6 #[.slice la ln lc, .int .i64 g] w fun e w' => ∃ (O : List Nat) (a : Option Addr) (c : Nat), e = .returned (.tuple #[.slice a (bestV F g O).1.length c, .int .i64 (bestV F g O).2, .int .i64 0]) ∧ AnsX 3 w' w.heap.size a (bestV F g O).1.length c ((bestV F g O).1.map fun (p : Nat) => Value.int .i64 (p : Int)) ∧ O.length = ln ∧ (∀ p, p ∈ O ↔ p < ln) ∧ O.Pairwise (fun a b => (F b).fr ≤ (F a).fr) ∧ w.grownBy w' none := by
  have HW := wrongPasses_ok w la ln lc F g hP hok h200 hg
  go_enter Try.func6, Try.ntmps6
  refine wp_seq_k fun K0 hK0 => ?_
  have HK0 : Hid _ := hK0
  clear hK0
  go_wp2
  refine HK0.out _ _ ?_
  clear HK0
  refine wp_seq_k fun K1 hK1 => ?_
  have HK1 : Hid _ := hK1
  clear hK1
  go_wp2_with (go_at_call 13; refine HW.mono ?_; rintro e w2 ⟨rfl, G2⟩)
  refine HK1.out _ _ ?_
  clear HK1
  have HBR := bestRow_any w2 la ln lc F g (hP.keep G2) h200 hok hg
  refine wp_seq_k fun K2 hK2 => ?_
  have HK2 : Hid _ := hK2
  clear hK2
  go_wp2_with (go_at_call 14; refine HBR.mono ?_; rintro e w3 ⟨gt, O, rfl, hN, hOl, hOm, hOp, G3⟩)
  refine HK2.out _ _ ?_
  clear HK2
  have hbd := top_bd F g hok (fun _ => true) O
  have hbd : (bestV F g O).1.length ≤ O.length := hbd.1
  have HOP : Hid _ := hOp
  have HOM : Hid _ := hOm
  have HOL : Hid _ := hOl
  clear HW HBR
  obtain ⟨V, hV⟩ : ∃ V, V = bestV F g O := ⟨_, rfl⟩
  rw [← hV] at hN hbd
  have HV : Hid _ := hV
  have hV2 : V.1.length ≤ 200 := by omega
  clear hOp hOm hOl hbd hV
  obtain ⟨pt, hpt, bt⟩ := hN.box
  refine wp_seq_k fun K3 hK3 => ?_
  have HK3 : Hid _ := hK3
  clear hK3
  have Gd := grown_drew w3 none
  have SS : BxS w3.drew gt 49 #[.int .i64 (hdP V : Int), pt, .int .i64 V.2, .int .i64 (V.1.length : Int)] := bt.keep Gd (by simp)
  refine wp_regionM (fun wz => BxS wz gt 49 #[.int .i64 (hdP V : Int), pt, .int .i64 V.2, .int .i64 (V.1.length : Int)]) [] #[false, false, false, false, false, false, false, false, false] rfl (by kernel_rfl) ?_
  have hNd := hN.keep Gd
  generalize w3.drew = wd at *
  refine wpAnyY_takeF 0 (.pointer (some ⟨gt, 0, none⟩)) rfl (by kernel_rfl) (fun _ _ _ h => h) rfl (by intro wz; go_simp; try rfl) ?_
  try simp only [List.getElem_toArray, List.getElem_cons_succ, List.getElem_cons_zero, Act.put, List.setIfInBounds_toArray, List.set_cons_zero, List.set_cons_succ]
  refine wpAnyY_takeF 2 (.pointer (some ⟨gt, 0, none⟩)) rfl (by kernel_rfl) (fun _ _ _ h => h) rfl (by intro wz; go_simp; try rfl) ?_
  try simp only [List.getElem_toArray, List.getElem_cons_succ, List.getElem_cons_zero, Act.put, List.setIfInBounds_toArray, List.set_cons_zero, List.set_cons_succ]
  refine wpAnyY_takeF 3 (.pointer (some ⟨gt, 0, none⟩)) rfl (by kernel_rfl) (fun _ _ _ h => h) rfl (by intro wz; go_simp; try rfl) ?_
  try simp only [List.getElem_toArray, List.getElem_cons_succ, List.getElem_cons_zero, Act.put, List.setIfInBounds_toArray, List.set_cons_zero, List.set_cons_succ]
  refine wpAnyY_takeF 4 (.pointer (some ⟨gt, 2, none⟩)) rfl (by kernel_rfl) (fun _ _ _ h => h) rfl (by intro wz; go_simp; try rfl) ?_
  try simp only [List.getElem_toArray, List.getElem_cons_succ, List.getElem_cons_zero, Act.put, List.setIfInBounds_toArray, List.set_cons_zero, List.set_cons_succ]
  refine wpAnyY_take [] 5 (.int .i64 V.2) rfl (by kernel_rfl) (fun _ _ _ h => h) SS rfl (by intro wz z1; have z : wz.cell? ⟨gt, 2, none⟩ = some (.int .i64 V.2) := z1.cell 2 (by show 2 < 4; decide); go_simp) ?_
  try simp only [List.getElem_toArray, List.getElem_cons_succ, List.getElem_cons_zero, Act.put, List.setIfInBounds_toArray, List.set_cons_zero, List.set_cons_succ]
  refine wpAnyY_oneB 1 rfl (by kernel_rfl) (fun KK hKK => ?_)
  go_simp
  go_at_call 15
  refine (places_any wd w2.heap.size gt V.1 V.2 hNd (by omega)).mono ?_
  rintro e w5 ⟨a5, c5, rfl, hA5, y5⟩
  dsimp only
  refine hKK _ _ (fun h _ => h.keep y5 (by simp)) ?_
  try simp only [List.getElem_toArray, List.getElem_cons_succ, List.getElem_cons_zero, Act.put, List.setIfInBounds_toArray, List.set_cons_zero, List.set_cons_succ]
  refine wpAnyY_oneB 6 rfl (by kernel_rfl) (fun KK hKK => ?_)
  go_simp
  refine hKK _ _ (fun h _ => h) ?_
  try simp only [List.getElem_toArray, List.getElem_cons_succ, List.getElem_cons_zero, Act.put, List.setIfInBounds_toArray, List.set_cons_zero, List.set_cons_succ]
  refine wpAnyY_oneB 7 rfl (by kernel_rfl) (fun KK hKK => ?_)
  go_simp
  refine hKK _ _ (fun h _ => h) ?_
  try simp only [List.getElem_toArray, List.getElem_cons_succ, List.getElem_cons_zero, Act.put, List.setIfInBounds_toArray, List.set_cons_zero, List.set_cons_succ]
  refine wpAnyY_oneB 8 rfl (by kernel_rfl) (fun KK hKK => ?_)
  go_simp
  refine hKK _ _ (fun h _ => h) ?_
  try simp only [List.getElem_toArray, List.getElem_cons_succ, List.getElem_cons_zero, Act.put, List.setIfInBounds_toArray, List.set_cons_zero, List.set_cons_succ]
  refine wpAnyY_doneB (by kernel_rfl) ?_ _
  refine HK3.out _ _ ?_
  clear HK3
  go_wp2
  (try simp only [Exit.inBlock, Exit.then])
  refine bodyPost_ret (results_tmp3 rfl _ _ _) rfl ?_
  have hV := HV.out
  subst hV
  have GG := grown_trans G2 (grown_trans G3 Gd)
  exact ⟨O, a5, c5, rfl, hA5.low GG.size, HOL.out, HOM.out, HOP.out, grown_trans GG y5⟩
end

section
/-- may a pass be? -/
def paB (p : Pa) : Bool := (decide (0 ≤ p.st) && decide (p.st ≤ 31)) && (decide (0 ≤ p.fr) && decide (p.fr ≤ 1000000)) && (decide (p.fr + 1 ≤ p.to') && decide (p.to' ≤ 1000000)) && (decide (0 ≤ p.wo) && decide (p.wo ≤ 1000000))
theorem paB_ok (p : Pa) : paB p = true ↔ p.ok := by
  unfold paB
  simp only [Bool.and_eq_true, decide_eq_true_iff]
  exact ⟨fun h => ⟨h.1.1.1, h.1.1.2, h.1.2, h.2⟩, fun h => ⟨⟨⟨h.st, h.fr⟩, h.to'⟩, h.wo⟩⟩
structure Pa.in64 (p : Pa) : Prop where
  st : (-9223372036854775808 ≤ p.st ∧ p.st ≤ 9223372036854775807)
  fr : (-9223372036854775808 ≤ p.fr ∧ p.fr ≤ 9223372036854775807)
  to' : (-9223372036854775808 ≤ p.to' ∧ p.to' ≤ 9223372036854775807)
  wo : (-9223372036854775808 ≤ p.wo ∧ p.wo ≤ 9223372036854775807)
theorem withinG_any (n a b : Int) (w : World) : Calls Try.prog 16 #[.int .i64 n, .int .i64 a, .int .i64 b] w fun e w' => e = .returned (.bool (decide (a ≤ n) && decide (n ≤ b))) ∧ w' = w := by
  by_cases h1 : a ≤ n
  · rw [decide_eq_true h1, Bool.true_and]
    go_enter Try.func16, Try.ntmps16
    go_wp2
    first | go_ret | skip
    exact ⟨rfl, rfl⟩
  · rw [decide_eq_false h1, Bool.false_and]
    go_enter Try.func16, Try.ntmps16
    go_wp2
    first | go_ret | skip
    exact ⟨rfl, rfl⟩
set_option maxHeartbeats 16000000 in
theorem wrongPass_any (p : Pa) (hp : p.in64) (w : World) : Calls Try.prog 18 #[.agg p.arr] w fun e w' => e = .returned (.bool (!paB p)) ∧ w.grownBy w' none := by
  obtain ⟨p0, p1, p2, p3⟩ := p
  obtain ⟨i0, i1, i2, i3⟩ := hp
  unfold paB
  dsimp only [Pa.arr] at *
  have G := World.grownBy_alloc w (.cells #[.int .i64 p0, .int .i64 p1, .int .i64 p2, .int .i64 p3] 29) none
  have HA := fun wz => withinG_any p0 0 31 wz
  have HB := fun wz => withinG_any p1 0 1000000 wz
  have HC := fun wz => withinG_any p2 (p1 + 1) 1000000 wz
  have HD := fun wz => withinG_any p3 0 1000000 wz
  obtain ⟨a, ha⟩ : ∃ a, (decide (0 ≤ p0) && decide (p0 ≤ 31)) = a := ⟨_, rfl⟩
  obtain ⟨b, hb⟩ : ∃ b, (decide (0 ≤ p1) && decide (p1 ≤ 1000000)) = b := ⟨_, rfl⟩
  obtain ⟨c, hc⟩ : ∃ c, (decide (p1 + 1 ≤ p2) && decide (p2 ≤ 1000000)) = c := ⟨_, rfl⟩
  obtain ⟨d, hd⟩ : ∃ d, (decide (0 ≤ p3) && decide (p3 ≤ 1000000)) = d := ⟨_, rfl⟩
  rw [ha, hb, hc, hd]
  rw [ha] at HA
  rw [hb] at HB
  rw [hc] at HC
  rw [hd] at HD
  have hb1 : b = true → p1 ≤ 1000000 ∧ 0 ≤ p1 := fun e => by
    rw [e] at hb
    have := Bool.and_eq_true_iff.1 hb
    exact ⟨of_decide_eq_true this.2, of_decide_eq_true this.1⟩
  clear ha hb hc hd
  have A1 : True := trivial
  cases a with
  | false =>
    go_enter Try.func18, Try.ntmps18
    have s1 : True := trivial
    go_wp2_with (first
      | (have _t := s1; clear s1; go_at_call 16; refine (HA _).mono ?_; rintro e wx ⟨rfl, hwx⟩; rw [hwx]; clear hwx; have s2 : True := trivial))
    first | go_ret | skip
    exact ⟨rfl, G⟩
  | true =>
    cases b with
    | false =>
      go_enter Try.func18, Try.ntmps18
      have s1 : True := trivial
      go_wp2_with (first
        | (have _t := s1; clear s1; go_at_call 16; refine (HA _).mono ?_; rintro e wx ⟨rfl, hwx⟩; rw [hwx]; clear hwx; have s2 : True := trivial)
        | (have _t := s2; clear s2; go_at_call 16; refine (HB _).mono ?_; rintro e wx ⟨rfl, hwx⟩; rw [hwx]; clear hwx; have s3 : True := trivial))
      first | go_ret | skip
      exact ⟨rfl, G⟩
    | true =>
      obtain ⟨q1, q2⟩ := hb1 rfl
      cases c with
      | false =>
        go_enter Try.func18, Try.ntmps18
        have s1 : True := trivial
        go_wp2_with (first
          | (have _t := s1; clear s1; go_at_call 16; refine (HA _).mono ?_; rintro e wx ⟨rfl, hwx⟩; rw [hwx]; clear hwx; have s2 : True := trivial)
          | (have _t := s2; clear s2; go_at_call 16; refine (HB _).mono ?_; rintro e wx ⟨rfl, hwx⟩; rw [hwx]; clear hwx; have s3 : True := trivial)
          | (have _t := s3; clear s3; go_at_call 16; refine (HC _).mono ?_; rintro e wx ⟨rfl, hwx⟩; rw [hwx]; clear hwx; have s4 : True := trivial))
        first | go_ret | skip
        exact ⟨rfl, G⟩
      | true =>
        cases d with
        | false =>
          go_enter Try.func18, Try.ntmps18
          have s1 : True := trivial
          go_wp2_with (first
            | (have _t := s1; clear s1; go_at_call 16; refine (HA _).mono ?_; rintro e wx ⟨rfl, hwx⟩; rw [hwx]; clear hwx; have s2 : True := trivial)
            | (have _t := s2; clear s2; go_at_call 16; refine (HB _).mono ?_; rintro e wx ⟨rfl, hwx⟩; rw [hwx]; clear hwx; have s3 : True := trivial)
            | (have _t := s3; clear s3; go_at_call 16; refine (HC _).mono ?_; rintro e wx ⟨rfl, hwx⟩; rw [hwx]; clear hwx; have s4 : True := trivial)
            | (have _t := s4; clear s4; go_at_call 16; refine (HD _).mono ?_; rintro e wx ⟨rfl, hwx⟩; rw [hwx]; clear hwx; have s5 : True := trivial))
          first | go_ret | skip
          exact ⟨rfl, G⟩
        | true =>
          go_enter Try.func18, Try.ntmps18
          have s1 : True := trivial
          go_wp2_with (first
            | (have _t := s1; clear s1; go_at_call 16; refine (HA _).mono ?_; rintro e wx ⟨rfl, hwx⟩; rw [hwx]; clear hwx; have s2 : True := trivial)
            | (have _t := s2; clear s2; go_at_call 16; refine (HB _).mono ?_; rintro e wx ⟨rfl, hwx⟩; rw [hwx]; clear hwx; have s3 : True := trivial)
            | (have _t := s3; clear s3; go_at_call 16; refine (HC _).mono ?_; rintro e wx ⟨rfl, hwx⟩; rw [hwx]; clear hwx; have s4 : True := trivial)
            | (have _t := s4; clear s4; go_at_call 16; refine (HD _).mono ?_; rintro e wx ⟨rfl, hwx⟩; rw [hwx]; clear hwx; have s5 : True := trivial))
          first | go_ret | skip
          exact ⟨rfl, G⟩
set_option maxHeartbeats 8000000 in
theorem indexF_any (w : World) (la : Option Addr) (ln lc : Nat) (F : Nat → Pa) (hP : RdPa w la ln lc F) (h64 : ∀ i, i < ln → (F i).in64) :
    Calls Try.prog 25 #[.slice la ln lc, .func (.func 18) #[] #[]] w fun e w' => ∃ z : Int, e = .returned (.int .i64 z) ∧ (0 ≤ z ↔ ∃ i, i < ln ∧ paB (F i) = false) ∧ w.grownBy w' none := by
  have hmx := hP.max
  have hple := hP.le
  unfold maxLen at hmx
  go_enter Try.func25, Try.ntmps25
  go_wp2
  go_loopw [8, 5] (fun v8 v5 wr => ∃ k : Nat, k ≤ ln ∧ v8 = .int .i64 k ∧ Hid (∀ i, i < k → paB (F i) = true) ∧ w.grownBy wr none) (fun v8 v5 _ => ln - (intOf v8).toNat)
  case atStart => exact ⟨0, Nat.zero_le _, rfl, (fun i h => absurd h (by omega)), World.grownBy.refl _ _⟩
  case round =>
    obtain ⟨k, hk, rfl, HK, GR⟩ := hrel
    by_cases hlt : k < ln
    · have lk : (k : Int) < (ln : Int) := by omega
      obtain ⟨lb, lf, hla, _, hlr⟩ := (hP.keep GR).at' (by omega)
      have hrk := hlr k hlt
      have HWp := fun wz => wrongPass_any (F k) (h64 k hlt) wz
      obtain ⟨b, hb⟩ : ∃ b, paB (F k) = b := ⟨_, rfl⟩
      rw [hb] at HWp
      have HB : Hid _ := hb
      subst hla
      clear hlr hb
      cases b with
      | true =>
        have s1 : True := trivial
        go_wp2_with (first
          | (have _t := s1; clear s1; refine wpList_load_mid rfl _ (.tmp 14) rfl lb (lf + k * 4) rfl (F k).cells _ hrk Try.underlying29 rfl Try.info_pa ?_; have s2 : True := trivial)
          | (have _t := s2; clear s2; go_at_call 18; refine (HWp _).mono ?_; rintro e w6 ⟨rfl, y6⟩))
        go_roundw
        case rel => exact ⟨k + 1, by omega, by go_num, (fun i h => by by_cases e : i = k; (rw [e]; exact HB.out); exact HK.out i (by omega)), grown_trans GR y6⟩
        case measure => simp [intOf] <;> omega
      | false =>
        have s1 : True := trivial
        go_wp2_with (first
          | (have _t := s1; clear s1; refine wpList_load_mid rfl _ (.tmp 14) rfl lb (lf + k * 4) rfl (F k).cells _ hrk Try.underlying29 rfl Try.info_pa ?_; have s2 : True := trivial)
          | (have _t := s2; clear s2; go_at_call 18; refine (HWp _).mono ?_; rintro e w6 ⟨rfl, y6⟩))
        first | go_ret | skip
        exact ⟨(k : Int), rfl, ⟨fun _ => ⟨k, hlt, HB.out⟩, fun _ => by omega⟩, grown_trans GR y6⟩
    · obtain rfl : k = ln := by omega
      have lk : ¬ (k : Int) < (k : Int) := by omega
      go_wp2
      first | go_ret | skip
      exact ⟨-1, rfl, ⟨fun h => absurd h (by decide), fun h => by obtain ⟨i, h1, h2⟩ := h; rw [HK.out i h1] at h2; cases h2⟩, GR⟩
/-- why of such passes none can be chosen (0: some can) -/
structure ChE (ln : Nat) (F : Nat → Pa) (g : Int) (z : Int) : Prop where
  a : 200 < ln → z = 1
  b : ln ≤ 200 → (¬ (0 ≤ g ∧ g ≤ 1000) ∨ ∃ i, i < ln ∧ paB (F i) = false) → z = 2
  c : ln ≤ 200 → (0 ≤ g ∧ g ≤ 1000) → (∀ i, i < ln → paB (F i) = true) → z = 0
set_option maxHeartbeats 8000000 in
theorem wrongPasses_any (w : World) (la : Option Addr) (ln lc : Nat) (F : Nat → Pa) (g : Int) (hP : RdPa w la ln lc F) (h64 : ∀ i, i < ln → (F i).in64) :
    Calls Try.prog 13 #[.slice la ln lc, .int .i64 g] w fun e w' => ∃ z : Int, e = .returned (.int .i64 z) ∧ ChE ln F g z ∧ w.grownBy w' none := by
  by_cases hl : 200 < ln
  · have l2 : (200 : Int) < (ln : Int) := by omega
    go_enter Try.func13, Try.ntmps13
    go_wp2
    first | go_ret | skip
    exact ⟨1, rfl, ⟨fun _ => rfl, fun h => absurd hl (by omega), fun h => absurd hl (by omega)⟩, World.grownBy.refl _ _⟩
  · have l2 : ¬ (200 : Int) < (ln : Int) := by omega
    have HIx := indexF_any w la ln lc F hP h64
    have HCo : Calls Try.prog 17 #[.slice la ln lc, .func (.func 18) #[] #[]] w fun e w' => ∃ b : Bool, e = .returned (.bool b) ∧ (b = true ↔ ∃ i, i < ln ∧ paB (F i) = false) ∧ w.grownBy w' none := by
      go_enter Try.func17, Try.ntmps17
      go_wp2_with (go_at_call 25; refine HIx.mono ?_; rintro e w6 ⟨z, rfl, hz, y6⟩; have HZ : Hid _ := hz; clear hz)
      first | go_ret | skip
      exact ⟨decide (0 ≤ z), rfl, by rw [decide_eq_true_iff]; exact HZ.out, y6⟩
    have HG := fun wz => withinG_any g 0 1000 wz
    obtain ⟨b, hb⟩ : ∃ b, (decide (0 ≤ g) && decide (g ≤ 1000)) = b := ⟨_, rfl⟩
    rw [hb] at HG
    have hbg : b = true ↔ (0 ≤ g ∧ g ≤ 1000) := by rw [← hb, Bool.and_eq_true_iff, decide_eq_true_iff, decide_eq_true_iff]
    have HBG : Hid _ := hbg
    clear hb hbg
    cases b with
    | false =>
      go_enter Try.func13, Try.ntmps13
      go_wp2_with (go_at_call 16; refine (HG _).mono ?_; rintro e wx ⟨rfl, hwx⟩; rw [hwx]; clear hwx)
      first | go_ret | skip
      exact ⟨2, rfl, ⟨fun h => absurd h hl, fun _ _ => rfl, fun _ h => absurd (HBG.out.2 h) (by decide)⟩, World.grownBy.refl _ _⟩
    | true =>
      have HGG : Hid (0 ≤ g ∧ g ≤ 1000) := HBG.out.1 rfl
      go_enter Try.func13, Try.ntmps13
      refine wp_seq_k fun K0 hK0 => ?_
      have HK0 : Hid _ := hK0
      clear hK0
      go_wp2
      refine HK0.out _ _ ?_
      clear HK0
      refine wp_seq_k fun K1 hK1 => ?_
      have HK1 : Hid _ := hK1
      clear hK1
      refine wp_block ?_
      refine wp_seq_k fun K2 hK2 => ?_
      have HK2 : Hid _ := hK2
      clear hK2
      go_wp2
      refine HK2.out _ _ ?_
      clear HK2
      refine wp_cond_false (by show Value.bool (decide ((200 : Int) < (ln : Int))) = .bool false; rw [decide_eq_false (by omega)]) ?_
      refine wp_seq_k fun K3 hK3 => ?_
      have HK3 : Hid _ := hK3
      clear hK3
      have s1 : True := trivial
      go_wp2_with (first
        | (have _t := s1; clear s1; go_at_call 16; refine (HG _).mono ?_; rintro e wx ⟨rfl, hwx⟩; rw [hwx]; clear hwx; have s2 : True := trivial)
        | (have _t := s2; clear s2; go_at_call 17; refine HCo.mono ?_; rintro e w6 ⟨bb, rfl, hbb, y6⟩))
      refine HK3.out _ _ ?_
      clear HK3
      have HBB : Hid _ := hbb
      clear hbb
      cases bb with
      | true =>
        have HE : Hid (∃ i, i < ln ∧ paB (F i) = false) := HBB.out.1 rfl
        go_wp2
        (try simp only [Exit.inBlock, Exit.then])
        refine bodyPost_ret (results_tmp rfl _ _ _) rfl ?_
        exact ⟨2, rfl, ⟨fun h => absurd h hl, fun _ _ => rfl, fun _ _ h => by obtain ⟨i, h1, h2⟩ := HE.out; rw [h i h1] at h2; cases h2⟩, y6⟩
      | false =>
        have HN : Hid (¬ ∃ i, i < ln ∧ paB (F i) = false) := fun h => absurd (HBB.out.2 h) (by decide)
        go_wp2
        (try simp only [Exit.inBlock, Exit.then])
        refine HK1.out _ _ ?_
        go_wp2
        first | go_ret | skip
        exact ⟨0, rfl, ⟨fun h => absurd h hl, fun _ h => by
          rcases h with h | h
          · exact absurd HGG.out h
          · exact absurd h HN.out, fun _ _ _ => rfl⟩, y6⟩
set_option maxHeartbeats 8000000 in
/-- Choose, of passes that may not be -/
theorem choose_no (w : World) (la : Option Addr) (ln lc : Nat) (F : Nat → Pa) (g : Int) (hP : RdPa w la ln lc F) (h64 : ∀ i, i < ln → (F i).in64) (hz : ¬ ChE ln F g 0) :
    Calls Try.prog 6 #[.slice la ln lc, .int .i64 g] w fun e w' => ∃ z : Int, e = .returned (.tuple #[.slice none 0 0, .int .i64 0, .int .i64 z]) ∧ ChE ln F g z ∧ w.grownBy w' none := by
  have HW := (wrongPasses_any w la ln lc F g hP h64).mono (R' := fun e w' => ∃ z : Int, e = .returned (.int .i64 z) ∧ z ≠ 0 ∧ ChE ln F g z ∧ w.grownBy w' none) (fun e w' h => by
    obtain ⟨z, h1, h2, h3⟩ := h
    exact ⟨z, h1, fun e => hz (by rw [← e]; exact h2), h2, h3⟩)
  go_enter Try.func6, Try.ntmps6
  go_wp2_with (go_at_call 13; refine HW.mono ?_; rintro e w2 ⟨z, rfl, hz0, hch, G2⟩)
  (try simp only [Exit.inBlock, Exit.then])
  refine bodyPost_ret (results_tmp3 rfl _ _ _) rfl ?_
  exact ⟨z, rfl, hch, G2⟩
end
end Go.Proofs.Ytpcejajijaphbaa
