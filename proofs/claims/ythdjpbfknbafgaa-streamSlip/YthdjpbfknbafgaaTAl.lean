import Derived.Test.YthdjpbfknbafgaaTRo
import Derived.Test.YthdjpbfknbafgaaZBx
namespace Go.Proofs.Ythdjpbfknbafgaa
open Go.RowKit Go.Shelf
set_option maxRecDepth 100000
set_option linter.unusedVariables false
set_option linter.unusedSimpArgs false
attribute [local go_sem] Oper.semAt_some

theorem Try.info_rl : (Try.prog.info? 23).map (·.size) = some 4 := by kernel_rfl
theorem Frm.toF {w w' : World} {r : Option Nat} (h : w.grownBy w' r) (hr : ∀ k, r = some k → w.heap.size ≤ k) : Frm (fun _ => False) w w' := Frm.of h (fun k e hl => by have := hr k e; omega)
theorem pickT_any (n of : Int) (w : World) (h1 : -9223372036854775808 ≤ n) (h2 : n ≤ 9223372036854775807) (ho : 0 < of) (ho2 : of ≤ 9223372036854775807) :
    Calls Try.prog 13 #[.int .i64 n, .int .i64 of] w fun e w' => ∃ v : Nat, (v : Int) < of ∧ e = .returned (.int .i64 v) ∧ w' = w := by
  by_cases hn : n < 0
  · have hnz : ¬ of = 0 := by omega
    go_enter Try.func13, Try.ntmps13
    go_wp2
    go_ret
    have p1 := Int.emod_nonneg (-(n + 1)) (show of ≠ 0 by omega)
    have p2 := Int.emod_lt_of_pos (-(n + 1)) ho
    have e : -((n + 1).tmod of) = (-(n + 1)) % of := by rw [← Int.neg_tmod, Int.tmod_eq_emod_of_nonneg (by omega)]
    refine ⟨((-(n + 1)) % of).toNat, by omega, ?_, rfl⟩
    refine congrArg (fun z => Ending.returned (Value.int .i64 z)) (?_ : -((n + 1).tmod of) = _)
    rw [e]; omega
  · have hnz : ¬ of = 0 := by omega
    go_enter Try.func13, Try.ntmps13
    go_wp2
    go_ret
    have p1 := Int.emod_nonneg n (show of ≠ 0 by omega)
    have p2 := Int.emod_lt_of_pos n ho
    refine ⟨(n % of).toNat, by omega, ?_, rfl⟩
    refine congrArg (fun z => Ending.returned (Value.int .i64 z)) (?_ : n % of = _)
    omega

set_option maxHeartbeats 16000000 in
theorem al_1 {u0 u1 u2 u4 u5 u6 u7 u8 u9 u10 u11 u12 u13 u14 u15 u16 u17 u18 u19 u20 u21 u22 u23 u24 u25 u26 u27 u28 u29 u30 u31 u32 u33 u34 u35 u36 u37 u38 u39 u40 u41 u42 u43 u44 u45 u46 u47 u48 u49 u50 u51 u52 u53 u54 u55 u56 u57 u58 u59 u60 u61 u62 u63 u64 u65 u66 u67 u68 u69 u70 u71 u72 u73 u74 u75 u76 u77 u78 u79 u80 u81 u82 u83 u84 u85 u86 u87 u88 u89 u90 u91 u92 u93 u94 u95 u96 u97 u98 u99 u100 u101 u102 u103 u104 u105 u106 u107 u108 u109 u110 u111 u112 u113 u114 u115 u116 u117 u118 u119 u120 u121 u122 u123 u124 u125 u126 u127 u128 u129 u130 u131 u132 : Value} (Q : Exit → Act → World → Prop) (w : World) (g : Nat) (L0 F0 H0 M0 : Int) (b : BxS w g 23 #[.int .i64 L0, .int .i64 F0, .int .i64 H0, .int .i64 M0])
    (hL0 : -9223372036854775808 ≤ L0 ∧ L0 ≤ 9223372036854775807) (hF0 : -9223372036854775808 ≤ F0 ∧ F0 ≤ 9223372036854775807) (hH0 : -9223372036854775808 ≤ H0 ∧ H0 ≤ 9223372036854775807) (hM0 : -9223372036854775808 ≤ M0 ∧ M0 ≤ 9223372036854775807)
    (hP : ∀ c a a' w, a.defers = a'.defers → Q (.panic c) a w → Q (.panic c) a' w)
    (hQ : ∀ (l f h m : Nat) W z17 z18 z19 z20 z21 z22 z23 z24 z25 z26 z27 z28 z29 z30, l < 40 → f < 9 → h < 13 → m < 9 → BxS W g 23 #[.int .i64 ((1 + l : Nat) : Int), .int .i64 (f : Nat), .int .i64 (h : Nat), .int .i64 (m : Nat)] → w.grownBy W (some g) → Q .normal (Act.mk (List.toArray (u0 :: u1 :: u2 :: (.pointer (some ⟨g, 0, none⟩)) :: u4 :: u5 :: u6 :: u7 :: u8 :: u9 :: u10 :: u11 :: u12 :: u13 :: u14 :: u15 :: u16 :: z17 :: z18 :: z19 :: z20 :: z21 :: z22 :: z23 :: z24 :: z25 :: z26 :: z27 :: z28 :: z29 :: z30 :: u31 :: u32 :: u33 :: u34 :: u35 :: u36 :: u37 :: u38 :: u39 :: u40 :: u41 :: u42 :: u43 :: u44 :: u45 :: u46 :: u47 :: u48 :: u49 :: u50 :: u51 :: u52 :: u53 :: u54 :: u55 :: u56 :: u57 :: u58 :: u59 :: u60 :: u61 :: u62 :: u63 :: u64 :: u65 :: u66 :: u67 :: u68 :: u69 :: u70 :: u71 :: u72 :: u73 :: u74 :: u75 :: u76 :: u77 :: u78 :: u79 :: u80 :: u81 :: u82 :: u83 :: u84 :: u85 :: u86 :: u87 :: u88 :: u89 :: u90 :: u91 :: u92 :: u93 :: u94 :: u95 :: u96 :: u97 :: u98 :: u99 :: u100 :: u101 :: u102 :: u103 :: u104 :: u105 :: u106 :: u107 :: u108 :: u109 :: u110 :: u111 :: u112 :: u113 :: u114 :: u115 :: u116 :: u117 :: u118 :: u119 :: u120 :: u121 :: u122 :: u123 :: u124 :: u125 :: u126 :: u127 :: u128 :: u129 :: u130 :: u131 :: u132 :: [])) []) W) :
    Code.wp Try.prog (headT (tailR 1 (Try.f5.body.getD .skip))) Q (Act.mk (List.toArray (u0 :: u1 :: u2 :: (.pointer (some ⟨g, 0, none⟩)) :: u4 :: u5 :: u6 :: u7 :: u8 :: u9 :: u10 :: u11 :: u12 :: u13 :: u14 :: u15 :: u16 :: u17 :: u18 :: u19 :: u20 :: u21 :: u22 :: u23 :: u24 :: u25 :: u26 :: u27 :: u28 :: u29 :: u30 :: u31 :: u32 :: u33 :: u34 :: u35 :: u36 :: u37 :: u38 :: u39 :: u40 :: u41 :: u42 :: u43 :: u44 :: u45 :: u46 :: u47 :: u48 :: u49 :: u50 :: u51 :: u52 :: u53 :: u54 :: u55 :: u56 :: u57 :: u58 :: u59 :: u60 :: u61 :: u62 :: u63 :: u64 :: u65 :: u66 :: u67 :: u68 :: u69 :: u70 :: u71 :: u72 :: u73 :: u74 :: u75 :: u76 :: u77 :: u78 :: u79 :: u80 :: u81 :: u82 :: u83 :: u84 :: u85 :: u86 :: u87 :: u88 :: u89 :: u90 :: u91 :: u92 :: u93 :: u94 :: u95 :: u96 :: u97 :: u98 :: u99 :: u100 :: u101 :: u102 :: u103 :: u104 :: u105 :: u106 :: u107 :: u108 :: u109 :: u110 :: u111 :: u112 :: u113 :: u114 :: u115 :: u116 :: u117 :: u118 :: u119 :: u120 :: u121 :: u122 :: u123 :: u124 :: u125 :: u126 :: u127 :: u128 :: u129 :: u130 :: u131 :: u132 :: [])) []) w := by
  conv => enter [2]; whnf
  have HQ : Hid _ := hQ
  clear hQ
  have Gd := grown_drew w none
  have bd := b.keep Gd (by simp)
  have SS : w.drew.cell? ⟨g, 0, none⟩ = some (.int .i64 L0) ∧ w.drew.cell? ⟨g, 1, none⟩ = some (.int .i64 F0) ∧ w.drew.cell? ⟨g, 2, none⟩ = some (.int .i64 H0) ∧ w.drew.cell? ⟨g, 3, none⟩ = some (.int .i64 M0) := ⟨bd.cell 0 (by show 0 < 4; decide), bd.cell 1 (by show 1 < 4; decide), bd.cell 2 (by show 2 < 4; decide), bd.cell 3 (by show 3 < 4; decide)⟩
  refine wp_regionM (fun wz => wz.cell? ⟨g, 0, none⟩ = some (.int .i64 L0) ∧ wz.cell? ⟨g, 1, none⟩ = some (.int .i64 F0) ∧ wz.cell? ⟨g, 2, none⟩ = some (.int .i64 H0) ∧ wz.cell? ⟨g, 3, none⟩ = some (.int .i64 M0)) [14] #[false, false, false, false, false, false, false, false, false, false, false, false, false, false, false] rfl (by kernel_rfl) ?_
  generalize w.drew = wd at *
  refine wpAnyY_takeF 0 (.pointer (some ⟨g, 0, none⟩)) rfl (by kernel_rfl) (fun _ _ _ h => hP _ _ _ _ (by rfl) h) rfl (by intro wz; go_simp; try rfl) ?_
  try simp only [List.getElem_toArray, List.getElem_cons_succ, List.getElem_cons_zero, Act.put, List.setIfInBounds_toArray, List.set_cons_zero, List.set_cons_succ]
  refine wpAnyY_take [14] 1 (.int .i64 L0) rfl (by kernel_rfl) (fun _ _ _ h => hP _ _ _ _ (by rfl) h) SS rfl (by rintro wz ⟨z0, z1, z2, z3⟩; go_simp) ?_
  try simp only [List.getElem_toArray, List.getElem_cons_succ, List.getElem_cons_zero, Act.put, List.setIfInBounds_toArray, List.set_cons_zero, List.set_cons_succ]
  refine wpAnyY_takeF 4 (.pointer (some ⟨g, 1, none⟩)) rfl (by kernel_rfl) (fun _ _ _ h => hP _ _ _ _ (by rfl) h) rfl (by intro wz; go_simp; try rfl) ?_
  try simp only [List.getElem_toArray, List.getElem_cons_succ, List.getElem_cons_zero, Act.put, List.setIfInBounds_toArray, List.set_cons_zero, List.set_cons_succ]
  refine wpAnyY_take [14] 5 (.int .i64 F0) rfl (by kernel_rfl) (fun _ _ _ h => hP _ _ _ _ (by rfl) h) SS rfl (by rintro wz ⟨z0, z1, z2, z3⟩; go_simp) ?_
  try simp only [List.getElem_toArray, List.getElem_cons_succ, List.getElem_cons_zero, Act.put, List.setIfInBounds_toArray, List.set_cons_zero, List.set_cons_succ]
  refine wpAnyY_takeF 7 (.pointer (some ⟨g, 2, none⟩)) rfl (by kernel_rfl) (fun _ _ _ h => hP _ _ _ _ (by rfl) h) rfl (by intro wz; go_simp; try rfl) ?_
  try simp only [List.getElem_toArray, List.getElem_cons_succ, List.getElem_cons_zero, Act.put, List.setIfInBounds_toArray, List.set_cons_zero, List.set_cons_succ]
  refine wpAnyY_take [14] 8 (.int .i64 H0) rfl (by kernel_rfl) (fun _ _ _ h => hP _ _ _ _ (by rfl) h) SS rfl (by rintro wz ⟨z0, z1, z2, z3⟩; go_simp) ?_
  try simp only [List.getElem_toArray, List.getElem_cons_succ, List.getElem_cons_zero, Act.put, List.setIfInBounds_toArray, List.set_cons_zero, List.set_cons_succ]
  refine wpAnyY_takeF 10 (.pointer (some ⟨g, 3, none⟩)) rfl (by kernel_rfl) (fun _ _ _ h => hP _ _ _ _ (by rfl) h) rfl (by intro wz; go_simp; try rfl) ?_
  try simp only [List.getElem_toArray, List.getElem_cons_succ, List.getElem_cons_zero, Act.put, List.setIfInBounds_toArray, List.set_cons_zero, List.set_cons_succ]
  refine wpAnyY_take [14] 11 (.int .i64 M0) rfl (by kernel_rfl) (fun _ _ _ h => hP _ _ _ _ (by rfl) h) SS rfl (by rintro wz ⟨z0, z1, z2, z3⟩; go_simp) ?_
  try simp only [List.getElem_toArray, List.getElem_cons_succ, List.getElem_cons_zero, Act.put, List.setIfInBounds_toArray, List.set_cons_zero, List.set_cons_succ]
  refine wpAnyY_oneB 2 rfl (by kernel_rfl) (fun KK hKK => ?_)
  go_simp
  go_at_call 13
  refine (pickT_any L0 40 wd hL0.1 hL0.2 (by decide) (by decide)).mono ?_
  rintro e wz ⟨l, hl, rfl, hw⟩
  have hw := hw.symm
  subst hw
  dsimp only
  refine hKK _ _ (fun h _ => h) ?_
  try simp only [List.getElem_toArray, List.getElem_cons_succ, List.getElem_cons_zero, Act.put, List.setIfInBounds_toArray, List.set_cons_zero, List.set_cons_succ]
  refine wpAnyY_takeF 3 (.int .i64 ((1 + l : Nat) : Int)) rfl (by kernel_rfl) (fun _ _ _ h => hP _ _ _ _ (by rfl) h) rfl (by intro wz; go_simp; rw [IntKind.wrap_i64] <;> omega) ?_
  try simp only [List.getElem_toArray, List.getElem_cons_succ, List.getElem_cons_zero, Act.put, List.setIfInBounds_toArray, List.set_cons_zero, List.set_cons_succ]
  refine wpAnyY_oneB 6 rfl (by kernel_rfl) (fun KK hKK => ?_)
  go_simp
  go_at_call 13
  refine (pickT_any F0 9 wd hF0.1 hF0.2 (by decide) (by decide)).mono ?_
  rintro e wz ⟨f, hf, rfl, hw⟩
  have hw := hw.symm
  subst hw
  dsimp only
  refine hKK _ _ (fun h _ => h) ?_
  try simp only [List.getElem_toArray, List.getElem_cons_succ, List.getElem_cons_zero, Act.put, List.setIfInBounds_toArray, List.set_cons_zero, List.set_cons_succ]
  refine wpAnyY_oneB 9 rfl (by kernel_rfl) (fun KK hKK => ?_)
  go_simp
  go_at_call 13
  refine (pickT_any H0 13 wd hH0.1 hH0.2 (by decide) (by decide)).mono ?_
  rintro e wz ⟨h, hh, rfl, hw⟩
  have hw := hw.symm
  subst hw
  dsimp only
  refine hKK _ _ (fun h _ => h) ?_
  try simp only [List.getElem_toArray, List.getElem_cons_succ, List.getElem_cons_zero, Act.put, List.setIfInBounds_toArray, List.set_cons_zero, List.set_cons_succ]
  refine wpAnyY_oneB 12 rfl (by kernel_rfl) (fun KK hKK => ?_)
  go_simp
  go_at_call 13
  refine (pickT_any M0 9 wd hM0.1 hM0.2 (by decide) (by decide)).mono ?_
  rintro e wz ⟨m, hm, rfl, hw⟩
  have hw := hw.symm
  subst hw
  dsimp only
  refine hKK _ _ (fun h _ => h) ?_
  try simp only [List.getElem_toArray, List.getElem_cons_succ, List.getElem_cons_zero, Act.put, List.setIfInBounds_toArray, List.set_cons_zero, List.set_cons_succ]
  refine wpAnyY_takeF 13 (.agg #[.int .i64 ((1 + l : Nat) : Int), .int .i64 (f : Nat), .int .i64 (h : Nat), .int .i64 (m : Nat)]) rfl (by kernel_rfl) (fun _ _ _ h => hP _ _ _ _ (by rfl) h) rfl (by intro wz; go_simp; try rfl) ?_
  try simp only [List.getElem_toArray, List.getElem_cons_succ, List.getElem_cons_zero, Act.put, List.setIfInBounds_toArray, List.set_cons_zero, List.set_cons_succ]
  refine wpAnyY_oneB 14 rfl (by kernel_rfl) (fun KK hKK => ?_)
  refine step_of_listT rfl ?_
  refine wpList_stX _ rfl _ _ _ rfl g _ #[.int .i64 ((1 + l : Nat) : Int), .int .i64 (f : Nat), .int .i64 (h : Nat), .int .i64 (m : Nat)] rfl rfl bd Try.info_rl rfl (by simp [Value.oneCell']) ?_
  intro wS bS gS
  show KK _ wS
  refine hKK _ _ (fun _ h => absurd (by decide) h) ?_
  try simp only [List.getElem_toArray, List.getElem_cons_succ, List.getElem_cons_zero, Act.put, List.setIfInBounds_toArray, List.set_cons_zero, List.set_cons_succ]
  refine wpAnyY_doneB (by kernel_rfl) ?_ _
  exact HQ.out l f h m wS _ _ _ _ _ _ _ _ _ _ _ _ _ _ (by omega) (by omega) (by omega) (by omega) bS (grown_trans (grown_weak Gd _) gS)

theorem cellG {w w' : World} {k o : Nat} {v : Value} (h : w.cell? ⟨k, o, none⟩ = some v) (hg : w.grownBy w' none) : w'.cell? ⟨k, o, none⟩ = some v :=
  cell_frm h (Frm.of (p := fun _ => False) hg (fun k e _ => by cases e)) (fun h => h)
/-- bits turned round, so many of them -/
def fpN (B : List Nat) (i : Nat) : List Nat := tab B.length (fun j => if j < i then 1 - nth B j else nth B j)
theorem fpN_zero (B : List Nat) : fpN B 0 = B := by
  refine list_ext (by unfold fpN; rw [tab_len]) (fun i hi => ?_)
  unfold fpN at hi ⊢
  rw [tab_len] at hi
  rw [tab_nth _ _ _ hi, if_neg (by omega)]
theorem fpN_step (B : List Nat) (i : Nat) (hi : i < B.length) : (fpN B i).set i (1 - nth B i) = fpN B (i + 1) := by
  unfold fpN
  refine tab_set _ _ _ _ _ hi ?_ ?_
  · show (if i < i + 1 then 1 - nth B i else nth B i) = _
    rw [if_pos (by omega)]
  · intro j hj hne
    by_cases h : j < i
    · rw [if_pos (show j < i + 1 by omega), if_pos h]
    · rw [if_neg (show ¬ j < i + 1 by omega), if_neg h]
theorem xor_oneT : ∀ x : Nat, x < 2 → bits .xor .u8 (x : Int) 1 = ((1 - x : Nat) : Int) := by decide +kernel
def catB (t : Bool) (ds : List (List Nat)) : List Nat := if t then fpN (catF ds) (catF ds).length else catF ds
theorem catF_nth {L : Nat} : ∀ (ds : List (List Nat)) (j i : Nat) (d : List Nat), (∀ d, d ∈ ds → d.length = L) → ds[j]? = some d → i < 32 + 8 * L → nth (catF ds) (j * (32 + 8 * L) + i) = nth (frmL d) i
  | [], j, i, d, _, h, _ => by cases h
  | e :: ds, 0, i, d, hl, h, hi => by
    have e2 : e = d := Option.some.inj h
    subst e2
    show nth (frmL e ++ catF ds) (0 * (32 + 8 * L) + i) = _
    rw [Nat.zero_mul, Nat.zero_add]
    exact nth_append_left _ _ _ (by rw [frmL_len, hl e (List.mem_cons_self ..)]; exact hi)
  | e :: ds, j + 1, i, d, hl, h, hi => by
    have ih := catF_nth ds j i d (fun x hx => hl x (List.mem_cons_of_mem _ hx)) h hi
    show nth (frmL e ++ catF ds) ((j + 1) * (32 + 8 * L) + i) = _
    have hle : (frmL e).length = 32 + 8 * L := by rw [frmL_len, hl e (List.mem_cons_self ..)]
    rw [show (j + 1) * (32 + 8 * L) + i = (frmL e).length + (j * (32 + 8 * L) + i) from by rw [hle, Nat.add_mul, Nat.one_mul]; omega, ← ih]
    unfold nth
    rw [List.getD_eq_getElem?_getD, List.getD_eq_getElem?_getD, List.getElem?_append_right (by omega), Nat.add_sub_cancel_left]
theorem frmL_bit (d : List Nat) (i : Nat) (hi : i < 32 + 8 * d.length) : nth (frmL d) i = if i < 32 then mkN i else bN (scrL d) (i - 32) := by
  unfold frmL
  by_cases h : i < 32
  · rw [if_pos h, nth_append_left _ _ _ (by rw [tab_len]; exact h), tab_nth _ _ _ h]
  · rw [if_neg h]
    unfold nth
    rw [List.getD_eq_getElem?_getD, List.getElem?_append_right (by rw [tab_len]; omega), tab_len]
    unfold bitL
    have := tab_nth (8 * (scrL d).length) (bN (scrL d)) (i - 32) (by rw [scrL_len]; omega)
    unfold nth at this
    rw [List.getD_eq_getElem?_getD] at this
    exact this
theorem catF_two {L : Nat} (ds : List (List Nat)) (hl : ∀ d, d ∈ ds → d.length = L) (i : Nat) (hi : i < (catF ds).length) : nth (catF ds) i < 2 := by
  rw [catF_len ds hl] at hi
  have hp : 0 < 32 + 8 * L := by omega
  have hj : i / (32 + 8 * L) < ds.length := Nat.div_lt_of_lt_mul (by rw [Nat.mul_comm]; exact hi)
  have hm := Nat.mod_lt i hp
  have hd := Nat.div_add_mod i (32 + 8 * L)
  obtain ⟨d, hd2⟩ : ∃ d, ds[i / (32 + 8 * L)]? = some d := ⟨_, List.getElem?_eq_getElem hj⟩
  have h := catF_nth ds _ _ d hl hd2 hm
  rw [Nat.mul_comm] at hd
  rw [hd] at h
  rw [h, frmL_bit d _ (by rw [hl d (List.mem_of_getElem? hd2)]; exact hm)]
  split
  · exact mkN_lt _
  · exact bN_lt _ _
theorem flp_nth {t : Bool} {L : Nat} (ds : List (List Nat)) (hl : ∀ d, d ∈ ds → d.length = L) (j i : Nat) (d : List Nat) (hd : ds[j]? = some d) (hi : i < 32 + 8 * L) : nth (catB t ds) (j * (32 + 8 * L) + i) = flp t (if i < 32 then mkN i else bN (scrL d) (i - 32)) := by
  have hj : j < ds.length := (List.getElem?_eq_some_iff.1 hd).1
  have hlt : j * (32 + 8 * L) + i < (catF ds).length := by
    rw [catF_len ds hl]
    have : (j + 1) * (32 + 8 * L) ≤ ds.length * (32 + 8 * L) := Nat.mul_le_mul_right _ hj
    rw [Nat.add_mul, Nat.one_mul] at this
    omega
  have h := catF_nth ds j i d hl hd hi
  rw [frmL_bit d i (by rw [hl d (List.mem_of_getElem? hd)]; exact hi)] at h
  unfold catB
  cases t with
  | false => exact h
  | true =>
    show nth (fpN _ _) _ = 1 - _
    unfold fpN
    rw [tab_nth _ _ _ hlt, if_pos hlt, h]
theorem catB_len {t : Bool} (ds : List (List Nat)) : (catB t ds).length = (catF ds).length := by
  unfold catB
  cases t with
  | false => rfl
  | true => show (fpN _ _).length = _; unfold fpN; rw [tab_len]
theorem mk_at {t : Bool} {L : Nat} (ds : List (List Nat)) (hl : ∀ d, d ∈ ds → d.length = L) (j : Nat) (hj : j < ds.length) : MkAt (catB t ds) (j * (32 + 8 * L)) t := fun i hi => by
  obtain ⟨d, hd⟩ : ∃ d, ds[j]? = some d := ⟨_, List.getElem?_eq_getElem hj⟩
  rw [flp_nth ds hl j i d hd (by omega), if_pos hi]
  have := mkN_lt i
  unfold flp
  split <;> omega
theorem dt_at {t : Bool} {L : Nat} (ds : List (List Nat)) (hl : ∀ d, d ∈ ds → d.length = L) (j : Nat) (d : List Nat) (hd : ds[j]? = some d) : DtAt (catB t ds) (j * (32 + 8 * L)) t d := fun i hi => by
  have hdl := hl d (List.mem_of_getElem? hd)
  rw [Nat.add_assoc, flp_nth ds hl j (32 + i) d hd (by omega), if_neg (by omega), show 32 + i - 32 = i from by omega]
  have := bN_lt (scrL d) i
  unfold flp
  split <;> omega
/-- ALL FRAMES ARE FOUND -/
theorem all_run (r : Rx) (t : Bool) (ds : List (List Nat)) (hL : 1 ≤ r.L) (hF : r.F ≤ 31) (hl : ∀ d, d ∈ ds → d.length = r.L ∧ IsB d) : ∀ n, n + 1 ≤ ds.length → EX r (catB t ds) t (fun i => i * (32 + 8 * r.L)) (fun i => ds.getD i []) ds.length (n + 1) ((n + 1) * (32 + 8 * r.L)) := by
  have hl1 : ∀ d, d ∈ ds → d.length = r.L := fun d h => (hl d h).1
  have hg : ∀ n, n < ds.length → ∃ d, ds[n]? = some d ∧ ds.getD n [] = d := fun n hn => ⟨ds[n], List.getElem?_eq_getElem hn, by rw [List.getD_eq_getElem?_getD, List.getElem?_eq_getElem hn]; rfl⟩
  intro n
  induction n with
  | zero =>
    intro hn
    obtain ⟨d, h1, h2⟩ := hg 0 hn
    have := EX.first (r := r) (B := catB t ds) (t := t) (pos := fun i => i * (32 + 8 * r.L)) (ds := fun i => ds.getD i []) (k := ds.length) hL hF (Nat.zero_mul _) (by have := mk_at (t := t) ds hl1 0 hn; rw [Nat.zero_mul] at this; exact this) (fun _ => by
      show (ds.getD 0 []).length = _ ∧ _ ∧ DtAt _ _ _ (ds.getD 0 [])
      rw [h2]
      have := dt_at (t := t) ds hl1 0 d h1
      rw [Nat.zero_mul] at this
      exact ⟨(hl d (List.mem_of_getElem? h1)).1, (hl d (List.mem_of_getElem? h1)).2, this⟩)
    rw [show (0 + 1) * (32 + 8 * r.L) = 0 + 32 + 8 * r.L from by omega]
    exact this
  | succ n ih =>
    intro hn
    have hi := ih (by omega)
    obtain ⟨d, h1, h2⟩ := hg (n + 1) hn
    have := hi.here hL rfl (mk_at ds hl1 (n + 1) (by omega)) (fun _ => by
      show (ds.getD (n + 1) []).length = _ ∧ _ ∧ DtAt _ _ _ (ds.getD (n + 1) [])
      rw [h2]
      exact ⟨(hl d (List.mem_of_getElem? h1)).1, (hl d (List.mem_of_getElem? h1)).2, dt_at ds hl1 (n + 1) d h1⟩)
    rw [show (n + 1 + 1) * (32 + 8 * r.L) = (n + 1) * (32 + 8 * r.L) + 32 + 8 * r.L from by rw [Nat.add_mul (n + 1) 1, Nat.one_mul]; omega]
    exact this
theorem all_told (r : Rx) (t : Bool) (ds : List (List Nat)) (hL : 1 ≤ r.L) (hF : r.F ≤ 31) (hl : ∀ d, d ∈ ds → d.length = r.L ∧ IsB d) : ∃ T, toX r s0X [catB t ds] = [T] ∧ loX r s0X [catB t ds] = [decide (0 < ds.length)] ∧ TI T ds.length (fun i => i * (32 + 8 * r.L)) t (fun i => ds.getD i []) ds.length := by
  have hlen : (catB t ds).length = ds.length * (32 + 8 * r.L) := by rw [catB_len, catF_len ds (fun d h => (hl d h).1)]
  cases hn : ds.length with
  | zero =>
    have e : ds = [] := List.eq_nil_of_length_eq_zero hn
    have hb : (catB t ds).length = 0 := by rw [hlen, hn, Nat.zero_mul]
    refine ⟨[], ?_, ?_, TI.nil _ _ _ _⟩
    · show [(tkX r s0X (catB t ds) (catB t ds).length).2] = _
      rw [hb]; rfl
    · show [(tkX r s0X (catB t ds) (catB t ds).length).1.mode != 0] = _
      rw [hb]; rfl
  | succ n =>
    obtain ⟨m, T, h1, h2⟩ := (all_run r t ds hL hF hl n (by omega)).ex
    rw [hn] at h2 hlen
    refine ⟨T, ?_, ?_, h2⟩
    · show [(tkX r s0X (catB t ds) (catB t ds).length).2] = _
      rw [hlen, h1]
    · show [(tkX r s0X (catB t ds) (catB t ds).length).1.mode != 0] = _
      rw [hlen, h1]; rfl
end Go.Proofs.Ythdjpbfknbafgaa
