import Derived.Test.YthdjpbfknbafgaaTSl
import Derived.Test.YthdjpbfknbafgaaTAm
namespace Go.Proofs.Ythdjpbfknbafgaa
open Go.RowKit Go.Shelf
set_option maxRecDepth 100000
set_option linter.unusedVariables false
set_option linter.unusedSimpArgs false
attribute [local go_sem] Oper.semAt_some

set_option maxHeartbeats 16000000 in
theorem sl_21 {u0 u1 u2 u3 u4 u5 u7 u8 u9 u10 u11 u12 u13 u15 u18 u19 u21 u23 u24 u25 u26 u27 u28 u29 u30 u31 u32 u33 u34 u35 u36 u37 u38 u39 u40 u41 u42 u43 u44 u45 u46 u47 u48 u49 u50 u51 u52 u53 u54 u55 u56 u57 u58 u59 u60 u61 u62 u63 u64 u65 u66 u67 u68 u69 u70 u71 u72 u73 u74 u75 u76 u77 u78 u79 u80 u81 u82 u83 u84 u85 u86 u87 u88 u89 u90 u91 u92 u93 u94 u95 u96 u97 u98 u99 u100 u101 u102 u103 u104 u105 u106 u107 u108 u109 u110 u111 u112 u113 u114 u115 u116 u117 u118 u119 u120 u121 u122 u123 u124 u125 u126 u127 u128 u129 u130 u131 u132 u133 u134 u135 u136 u137 u138 u139 u140 u141 u142 u143 u144 u145 u146 u147 u148 u149 u150 u151 u152 u153 u154 u155 u156 u157 u158 u159 u160 u161 u162 u163 u164 u165 u166 u167 u168 u169 u170 u171 : Value} (w0 w1 : World) (g N SZ k g4 c4 : Nat) (sh : Int) (mo : Bool) (a8 av : Option Addr) (c8 cv lo : Nat) (V : List Value) (ds : List (List Nat)) (ys : List Fy) (xp : Nat → Prop) (hN : ds.length = N) (hN2 : N ≤ 20) (hSZ : 40 ≤ SZ ∧ SZ ≤ 352) (hsh : sh = if mo then 1 else -1)
    (hX : AnsX 25 w1 w0.heap.size a8 N c8 V) (hR : PiR w1 V ds w0.heap.size xp) (k4 : w1.cell? ⟨g4, 0, none⟩ = some (.slice av N cv)) (hown : w1.ownsRow lo 42 4 (.slice av N cv) N (flY ys))
    (hy : ∀ i, i < N → ∃ y, ys[i]? = some y ∧ (∃ D, absF y.1 = (posS SZ k mo i, false, 0, D) ∧ (i ≠ k → D = ds.getD i [])) ∧ Ans w1 lo y.1.a y.1.n y.2 y.1.D) (F0 : Frm (fun _ => False) w0 w1) :
    Code.wp Try.prog (tailR 21 (Try.f6.body.getD .skip)) (bodyPost Try.prog Try.f6 (fun e w' => e = .returned (.bool true) ∧ w0.grownBy w' none)) (Act.mk (List.toArray (u0 :: u1 :: u2 :: u3 :: u4 :: u5 :: (.pointer (some ⟨g, 0, none⟩)) :: u7 :: u8 :: u9 :: u10 :: u11 :: u12 :: u13 :: (.slice a8 N c8) :: u15 :: (.int .i64 (SZ : Nat)) :: (.int .i64 (k : Nat)) :: u18 :: u19 :: (.int .i64 sh) :: u21 :: (.slice (some ⟨g4, 0, none⟩) 1 c4) :: u23 :: u24 :: u25 :: u26 :: u27 :: u28 :: u29 :: u30 :: u31 :: u32 :: u33 :: u34 :: u35 :: u36 :: u37 :: u38 :: u39 :: u40 :: u41 :: u42 :: u43 :: u44 :: u45 :: u46 :: u47 :: u48 :: u49 :: u50 :: u51 :: u52 :: u53 :: u54 :: u55 :: u56 :: u57 :: u58 :: u59 :: u60 :: u61 :: u62 :: u63 :: u64 :: u65 :: u66 :: u67 :: u68 :: u69 :: u70 :: u71 :: u72 :: u73 :: u74 :: u75 :: u76 :: u77 :: u78 :: u79 :: u80 :: u81 :: u82 :: u83 :: u84 :: u85 :: u86 :: u87 :: u88 :: u89 :: u90 :: u91 :: u92 :: u93 :: u94 :: u95 :: u96 :: u97 :: u98 :: u99 :: u100 :: u101 :: u102 :: u103 :: u104 :: u105 :: u106 :: u107 :: u108 :: u109 :: u110 :: u111 :: u112 :: u113 :: u114 :: u115 :: u116 :: u117 :: u118 :: u119 :: u120 :: u121 :: u122 :: u123 :: u124 :: u125 :: u126 :: u127 :: u128 :: u129 :: u130 :: u131 :: u132 :: u133 :: u134 :: u135 :: u136 :: u137 :: u138 :: u139 :: u140 :: u141 :: u142 :: u143 :: u144 :: u145 :: u146 :: u147 :: u148 :: u149 :: u150 :: u151 :: u152 :: u153 :: u154 :: u155 :: u156 :: u157 :: u158 :: u159 :: u160 :: u161 :: u162 :: u163 :: u164 :: u165 :: u166 :: u167 :: u168 :: u169 :: u170 :: u171 :: [])) []) w1 := by
  conv => enter [2]; whnf
  have HN : Hid _ := hN
  have HY : Hid _ := hy
  have HSH : Hid _ := hsh
  clear hN hy hsh
  go_wp2
  go_loopw [26] (fun v wr => ∃ i : Nat, v = .int .i64 i ∧ i ≤ N ∧ Frm (fun _ => False) w1 wr) (fun v _ => N - (intOf v).toNat)
  case atStart => exact ⟨0, rfl, Nat.zero_le _, Frm.refl _ _⟩
  case round =>
    obtain ⟨i, rfl, hi, Fr⟩ := hrel
    by_cases hlt : i < N
    · have hin : (i : Int) < (N : Int) := by omega
      obtain ⟨⟨⟨p, tu, mi, ya, yn, D⟩, yc⟩, hyi, ⟨D', habs, hDk⟩, hAy⟩ := HY.out i hlt
      obtain ⟨hp, rfl, rfl, rfl⟩ : p = posS SZ k mo i ∧ tu = false ∧ mi = 0 ∧ D' = D := by
        have e1 := congrArg Prod.fst habs
        have e2 := congrArg Prod.snd habs
        have e3 := congrArg Prod.fst e2
        have e4 := congrArg Prod.snd e2
        have e5 := congrArg Prod.fst e4
        have e6 := congrArg Prod.snd e4
        exact ⟨e1, e3, e5, e6.symm⟩
      clear habs
      dsimp only at hAy
      obtain ⟨E, hE⟩ : ∃ E, E = ds.getD i [] := ⟨_, rfl⟩
      rw [← hE] at hDk
      have hdi : ds[i]? = some E := by
        rw [hE, List.getD_eq_getElem?_getD]
        have hl : i < ds.length := by rw [HN.out]; exact hlt
        rw [List.getElem?_eq_getElem hl]; rfl
      clear hE
      obtain ⟨v, hVi⟩ : ∃ v, V[i]? = some v := ⟨_, List.getElem?_eq_getElem (by rw [hR.len, HN.out]; exact hlt)⟩
      obtain ⟨gd, cd, rfl, hdR0, _, _⟩ := hR.at' i v E hVi hdi
      obtain ⟨gv, rfl⟩ : ∃ gv, av = some ⟨gv, 0, none⟩ := by
        rcases hown.2 with ⟨h1, h2⟩ | ⟨gv, cap, cur, h1, _⟩
        · omega
        · cases h1; exact ⟨_, rfl⟩
      obtain ⟨g8, rfl⟩ : ∃ g8, a8 = some ⟨g8, 0, none⟩ := by
        rcases hX.cases with ⟨_, h2, _⟩ | ⟨g8, h1, _⟩
        · omega
        · exact ⟨g8, h1⟩
      have hrw := row_frm hown Fr (fun _ _ h => h)
      have cc : ∀ j u, (cellsY (⟨p, false, 0, ya, yn, D'⟩, yc))[j]? = some u → wr.cell? ⟨gv, i * 4 + j, none⟩ = some u := fun j u hu => by
        have hj : j < 4 := (List.getElem?_eq_some_iff.1 hu).1
        have h := hrw.cells (g := gv) rfl (i * 4 + j) u ((flY_at ys i _ hyi j hj).trans hu)
        rw [addr_add, Nat.zero_add] at h
        exact h
      have x0 := cc 0 _ rfl
      have x1 := cc 1 _ rfl
      have x2 := cc 2 _ rfl
      have x3 := cc 3 _ rfl
      rw [Nat.add_zero] at x0
      dsimp only at x0 x1 x2 x3
      have k4r := cell_frm k4 Fr (fun h => h)
      have bq := BxS.new wr 42 #[.int .i64 (p : Nat), .bool false, .int .i64 ((0 : Nat) : Int), .slice ya yn yc]
      have gq := World.grownBy_alloc wr (.cells #[.int .i64 (p : Nat), .bool false, .int .i64 ((0 : Nat) : Int), .slice ya yn yc] 42) none
      have HVI : Hid _ := hVi
      clear hdi hVi hyi cc
      have hmb : i * SZ ≤ 20 * 352 := Nat.mul_le_mul (by omega) hSZ.2
      obtain ⟨m, hm⟩ : ∃ m, m = i * SZ := ⟨_, rfl⟩
      have HMU : Hid (IntKind.i64.wrap ((i : Int) * (SZ : Int)) = (m : Int)) := by
        have hmu : (i : Int) * (SZ : Int) = (m : Int) := by rw [hm]; push_cast; rfl
        show _ = _
        rw [hmu, IntKind.wrap_i64] <;> omega
      have hpos : (¬ k < i → p = m) ∧ (k < i → IntKind.i64.wrap ((m : Int) + sh) = (p : Int)) := by
        unfold posS at hp
        refine ⟨fun h => by rw [if_pos (by omega)] at hp; omega, fun h => ?_⟩
        rw [if_neg (by omega)] at hp
        have h40 : 1 * 40 ≤ i * SZ := Nat.mul_le_mul (by omega) hSZ.1
        have he : (m : Int) + sh = (p : Int) := by
          rw [HSH.out, hp, hm]
          unfold shN
          cases mo <;> simp <;> omega
        have hs1 : -1 ≤ sh ∧ sh ≤ 1 := by
          rw [HSH.out]
          cases mo <;> simp
        rw [he, IntKind.wrap_i64] <;> omega
      have HPO : Hid _ := hpos
      have HDK : Hid _ := hDk
      have hmm : m ≤ 20 * 352 := by omega
      clear hpos hDk hp hm hmb
      refine wp_seq_k fun K20 hK20 => ?_
      have HK20 : Hid _ := hK20
      clear hK20
      refine wp_seq_k fun K21 hK21 => ?_
      have HK21 : Hid _ := hK21
      clear hK21
      go_wp2
      (try simp only [Exit.inBlock, Exit.then])
      refine HK21.out _ _ ?_
      clear HK21
      go_wp2
      (try simp only [Exit.inBlock, Exit.then])
      refine HK20.out _ _ ?_
      clear HK20
      refine wp_seq_k fun K22 hK22 => ?_
      have HK22 : Hid _ := hK22
      clear hK22
      refine wp_block ?_
      refine wp_seq_k fun K15 hK15 => ?_
      have HK15 : Hid _ := hK15
      clear hK15
      go_wp2
      (try simp only [Exit.inBlock, Exit.then])
      refine HK15.out _ _ ?_
      clear HK15
      have Fq : Frm (fun _ => False) wr (wr.alloc (.cells #[.int .i64 (p : Nat), .bool false, .int .i64 ((0 : Nat) : Int), .slice ya yn yc] 42)) := Frm.of gq (fun k e _ => by cases e)
      have Fd : Frm (fun _ => False) (wr.alloc (.cells #[.int .i64 (p : Nat), .bool false, .int .i64 ((0 : Nat) : Int), .slice ya yn yc] 42)) (wr.alloc (.cells #[.int .i64 (p : Nat), .bool false, .int .i64 ((0 : Nat) : Int), .slice ya yn yc] 42)).drew := Frm.of (grown_drew _ none) (fun k e _ => by cases e)
      have Fwd := (Fr.trans Fq (fun _ _ h => h)).trans Fd (fun _ _ h => h)
      have q0 : (wr.alloc (.cells #[.int .i64 (p : Nat), .bool false, .int .i64 ((0 : Nat) : Int), .slice ya yn yc] 42)).drew.cell? ⟨wr.heap.size, 0, none⟩ = some (.int .i64 (p : Nat)) := cell_frm (bq.cell 0 (by show 0 < 4; decide)) Fd (fun h => h)
      have q1 : (wr.alloc (.cells #[.int .i64 (p : Nat), .bool false, .int .i64 ((0 : Nat) : Int), .slice ya yn yc] 42)).drew.cell? ⟨wr.heap.size, 1, none⟩ = some (.bool false) := cell_frm (bq.cell 1 (by show 1 < 4; decide)) Fd (fun h => h)
      have q2 : (wr.alloc (.cells #[.int .i64 (p : Nat), .bool false, .int .i64 ((0 : Nat) : Int), .slice ya yn yc] 42)).drew.cell? ⟨wr.heap.size, 2, none⟩ = some (.int .i64 0) := cell_frm (bq.cell 2 (by show 2 < 4; decide)) Fd (fun h => h)
      have q3 : (wr.alloc (.cells #[.int .i64 (p : Nat), .bool false, .int .i64 ((0 : Nat) : Int), .slice ya yn yc] 42)).drew.cell? ⟨wr.heap.size, 3, none⟩ = some (.slice ya yn yc) := cell_frm (bq.cell 3 (by show 3 < 4; decide)) Fd (fun h => h)
      have kd : (wr.alloc (.cells #[.int .i64 (p : Nat), .bool false, .int .i64 ((0 : Nat) : Int), .slice ya yn yc] 42)).drew.cell? ⟨g8, i, none⟩ = some (.slice (some ⟨gd, 0, none⟩) E.length cd) := cell_frm (hX.cell i _ HVI.out) Fwd (fun h => h)
      have hyR := Rd.keepF (p := fun _ => False) hAy.rd Fwd
      have hdR := rd_frm hdR0 Fwd (fun h => h)
      clear x0 x1 x2 x3 k4r bq gq Fq Fd hrw hAy hdR0
      refine wp_seq_k fun K25 hK25 => ?_
      have HK25 : Hid _ := hK25
      clear hK25
      have hwm := HMU.out
      go_wp2
      (try simp only [Exit.inBlock, Exit.then])
      refine HK25.out _ _ ?_
      clear HK25
      clear hwm
      refine wp_seq_k fun K26 hK26 => ?_
      have HK26 : Hid _ := hK26
      clear hK26
      have FIN : ∀ {u28 u136 u139 u140 u141 u142 z : Value}, True := fun {_ _ _ _ _ _ _} => trivial
      clear FIN
      by_cases hki : k < i
      · have hwk := HPO.out.2 hki
        have hgt : (k : Int) < (i : Int) := by omega
        have hne : ¬ (i : Int) = (k : Int) := by omega
        have hDe := HDK.out (by omega)
        subst hDe
        go_wp2
        (try simp only [Exit.inBlock, Exit.then])
        refine HK26.out _ _ ?_
        clear HK26
        clear hwk
        refine wp_seq_k fun K28 hK28 => ?_
        have HK28 : Hid _ := hK28
        clear hK28
        have SS : (wr.alloc (.cells #[.int .i64 (p : Nat), .bool false, .int .i64 ((0 : Nat) : Int), .slice ya yn yc] 42)).drew.grownBy (wr.alloc (.cells #[.int .i64 (p : Nat), .bool false, .int .i64 ((0 : Nat) : Int), .slice ya yn yc] 42)).drew none := World.grownBy.refl _ _
        refine wp_regionM (fun wz => (wr.alloc (.cells #[.int .i64 (p : Nat), .bool false, .int .i64 ((0 : Nat) : Int), .slice ya yn yc] 42)).drew.grownBy wz none) [] #[false, false, false, false, false, false, false, false, false, false, false, false, false, false, false, false, false, false, false, false, false, false, false, false, false, false, false, false, false] rfl (by kernel_rfl) ?_
        generalize (wr.alloc (.cells #[.int .i64 (p : Nat), .bool false, .int .i64 ((0 : Nat) : Int), .slice ya yn yc] 42)).drew = wd at *
        refine wpAnyY_takeF 0 (.pointer (some ⟨wr.heap.size, 0, none⟩)) rfl (by kernel_rfl) (fun _ _ _ h => h) rfl (by intro wz; go_simp; try rfl) ?_
        try simp only [List.getElem_toArray, List.getElem_cons_succ, List.getElem_cons_zero, Act.put, List.setIfInBounds_toArray, List.set_cons_zero, List.set_cons_succ]
        refine wpAnyY_take [] 1 (.int .i64 (p : Nat)) rfl (by kernel_rfl) (fun _ _ _ h => h) SS rfl (by intro wz hz; have z := cellG q0 hz; go_simp) ?_
        try simp only [List.getElem_toArray, List.getElem_cons_succ, List.getElem_cons_zero, Act.put, List.setIfInBounds_toArray, List.set_cons_zero, List.set_cons_succ]
        refine wpAnyY_takeF 2 (.int .i64 (p : Nat)) rfl (by kernel_rfl) (fun _ _ _ h => h) rfl (by intro wz; go_simp; try rfl) ?_
        try simp only [List.getElem_toArray, List.getElem_cons_succ, List.getElem_cons_zero, Act.put, List.setIfInBounds_toArray, List.set_cons_zero, List.set_cons_succ]
        refine wpAnyY_takeF 3 (.bool false) rfl (by kernel_rfl) (fun _ _ _ h => h) rfl (by intro wz; go_simp) ?_
        try simp only [List.getElem_toArray, List.getElem_cons_succ, List.getElem_cons_zero, Act.put, List.setIfInBounds_toArray, List.set_cons_zero, List.set_cons_succ]
        refine wpAnyY_takeF 4 (.bool false) rfl (by kernel_rfl) (fun _ _ _ h => h) rfl (by intro wz; go_simp; try rfl) ?_
        try simp only [List.getElem_toArray, List.getElem_cons_succ, List.getElem_cons_zero, Act.put, List.setIfInBounds_toArray, List.set_cons_zero, List.set_cons_succ]
        refine wpAnyY_takeF 5 (.pointer (some ⟨wr.heap.size, 1, none⟩)) rfl (by kernel_rfl) (fun _ _ _ h => h) rfl (by intro wz; go_simp; try rfl) ?_
        try simp only [List.getElem_toArray, List.getElem_cons_succ, List.getElem_cons_zero, Act.put, List.setIfInBounds_toArray, List.set_cons_zero, List.set_cons_succ]
        refine wpAnyY_take [] 6 (.bool false) rfl (by kernel_rfl) (fun _ _ _ h => h) SS rfl (by intro wz hz; have z := cellG q1 hz; go_simp) ?_
        try simp only [List.getElem_toArray, List.getElem_cons_succ, List.getElem_cons_zero, Act.put, List.setIfInBounds_toArray, List.set_cons_zero, List.set_cons_succ]
        refine wpAnyY_takeF 7 (.bool false) rfl (by kernel_rfl) (fun _ _ _ h => h) rfl (by intro wz; go_simp; try rfl) ?_
        try simp only [List.getElem_toArray, List.getElem_cons_succ, List.getElem_cons_zero, Act.put, List.setIfInBounds_toArray, List.set_cons_zero, List.set_cons_succ]
        refine wpAnyY_takeF 8 (.bool false) rfl (by kernel_rfl) (fun _ _ _ h => h) rfl (by intro wz; go_simp; try rfl) ?_
        try simp only [List.getElem_toArray, List.getElem_cons_succ, List.getElem_cons_zero, Act.put, List.setIfInBounds_toArray, List.set_cons_zero, List.set_cons_succ]
        refine wpAnyY_takeF 9 (.pointer (some ⟨wr.heap.size, 2, none⟩)) rfl (by kernel_rfl) (fun _ _ _ h => h) rfl (by intro wz; go_simp; try rfl) ?_
        try simp only [List.getElem_toArray, List.getElem_cons_succ, List.getElem_cons_zero, Act.put, List.setIfInBounds_toArray, List.set_cons_zero, List.set_cons_succ]
        refine wpAnyY_take [] 10 (.int .i64 0) rfl (by kernel_rfl) (fun _ _ _ h => h) SS rfl (by intro wz hz; have z := cellG q2 hz; go_simp) ?_
        try simp only [List.getElem_toArray, List.getElem_cons_succ, List.getElem_cons_zero, Act.put, List.setIfInBounds_toArray, List.set_cons_zero, List.set_cons_succ]
        refine wpAnyY_takeF 11 (.bool false) rfl (by kernel_rfl) (fun _ _ _ h => h) rfl (by intro wz; go_simp) ?_
        try simp only [List.getElem_toArray, List.getElem_cons_succ, List.getElem_cons_zero, Act.put, List.setIfInBounds_toArray, List.set_cons_zero, List.set_cons_succ]
        refine wpAnyY_takeF 12 (.bool false) rfl (by kernel_rfl) (fun _ _ _ h => h) rfl (by intro wz; go_simp; try rfl) ?_
        try simp only [List.getElem_toArray, List.getElem_cons_succ, List.getElem_cons_zero, Act.put, List.setIfInBounds_toArray, List.set_cons_zero, List.set_cons_succ]
        refine wpAnyY_takeF 13 (.bool false) rfl (by kernel_rfl) (fun _ _ _ h => h) rfl (by intro wz; go_simp; try rfl) ?_
        try simp only [List.getElem_toArray, List.getElem_cons_succ, List.getElem_cons_zero, Act.put, List.setIfInBounds_toArray, List.set_cons_zero, List.set_cons_succ]
        refine wpAnyY_takeF 14 (.int .i64 (i : Nat)) rfl (by kernel_rfl) (fun _ _ _ h => h) rfl (by intro wz; go_simp; try rfl) ?_
        try simp only [List.getElem_toArray, List.getElem_cons_succ, List.getElem_cons_zero, Act.put, List.setIfInBounds_toArray, List.set_cons_zero, List.set_cons_succ]
        refine wpAnyY_takeF 15 (.int .i64 (k : Nat)) rfl (by kernel_rfl) (fun _ _ _ h => h) rfl (by intro wz; go_simp; try rfl) ?_
        try simp only [List.getElem_toArray, List.getElem_cons_succ, List.getElem_cons_zero, Act.put, List.setIfInBounds_toArray, List.set_cons_zero, List.set_cons_succ]
        refine wpAnyY_takeF 16 (.bool true) rfl (by kernel_rfl) (fun _ _ _ h => h) rfl (by intro wz; go_simp) ?_
        try simp only [List.getElem_toArray, List.getElem_cons_succ, List.getElem_cons_zero, Act.put, List.setIfInBounds_toArray, List.set_cons_zero, List.set_cons_succ]
        refine wpAnyY_takeF 17 (.bool true) rfl (by kernel_rfl) (fun _ _ _ h => h) rfl (by intro wz; go_simp; try rfl) ?_
        try simp only [List.getElem_toArray, List.getElem_cons_succ, List.getElem_cons_zero, Act.put, List.setIfInBounds_toArray, List.set_cons_zero, List.set_cons_succ]
        refine wpAnyY_takeF 18 (.pointer (some ⟨wr.heap.size, 3, none⟩)) rfl (by kernel_rfl) (fun _ _ _ h => h) rfl (by intro wz; go_simp; try rfl) ?_
        try simp only [List.getElem_toArray, List.getElem_cons_succ, List.getElem_cons_zero, Act.put, List.setIfInBounds_toArray, List.set_cons_zero, List.set_cons_succ]
        refine wpAnyY_take [] 19 (.slice ya yn yc) rfl (by kernel_rfl) (fun _ _ _ h => h) SS rfl (by intro wz hz; have z := cellG q3 hz; go_simp) ?_
        try simp only [List.getElem_toArray, List.getElem_cons_succ, List.getElem_cons_zero, Act.put, List.setIfInBounds_toArray, List.set_cons_zero, List.set_cons_succ]
        refine wpAnyY_take [] 20 (.string (strB D')) rfl (by kernel_rfl) (fun _ _ _ h => h) SS rfl (by intro wz hz; have cvz := str_any wz ya yn yc D' (hyR.keep hz); go_simp) ?_
        try simp only [List.getElem_toArray, List.getElem_cons_succ, List.getElem_cons_zero, Act.put, List.setIfInBounds_toArray, List.set_cons_zero, List.set_cons_succ]
        refine wpAnyY_takeF 21 (.slice (some ⟨g8, 0, none⟩) N c8) rfl (by kernel_rfl) (fun _ _ _ h => h) rfl (by intro wz; go_simp; try rfl) ?_
        try simp only [List.getElem_toArray, List.getElem_cons_succ, List.getElem_cons_zero, Act.put, List.setIfInBounds_toArray, List.set_cons_zero, List.set_cons_succ]
        refine wpAnyY_takeF 22 (.int .i64 (i : Nat)) rfl (by kernel_rfl) (fun _ _ _ h => h) rfl (by intro wz; go_simp; try rfl) ?_
        try simp only [List.getElem_toArray, List.getElem_cons_succ, List.getElem_cons_zero, Act.put, List.setIfInBounds_toArray, List.set_cons_zero, List.set_cons_succ]
        refine wpAnyY_takeF 23 (.pointer (some ⟨g8, i, none⟩)) rfl (by kernel_rfl) (fun _ _ _ h => h) rfl (by intro wz; go_simp; try rfl) ?_
        try simp only [List.getElem_toArray, List.getElem_cons_succ, List.getElem_cons_zero, Act.put, List.setIfInBounds_toArray, List.set_cons_zero, List.set_cons_succ]
        refine wpAnyY_take [] 24 (.slice (some ⟨gd, 0, none⟩) D'.length cd) rfl (by kernel_rfl) (fun _ _ _ h => h) SS rfl (by intro wz hz; have z := cellG kd hz; go_simp) ?_
        try simp only [List.getElem_toArray, List.getElem_cons_succ, List.getElem_cons_zero, Act.put, List.setIfInBounds_toArray, List.set_cons_zero, List.set_cons_succ]
        refine wpAnyY_take [] 25 (.string (strB D')) rfl (by kernel_rfl) (fun _ _ _ h => h) SS rfl (by intro wz hz; have cvz := str_any wz (some ⟨gd, 0, none⟩) D'.length cd D' (hdR.keep hz); go_simp) ?_
        try simp only [List.getElem_toArray, List.getElem_cons_succ, List.getElem_cons_zero, Act.put, List.setIfInBounds_toArray, List.set_cons_zero, List.set_cons_succ]
        refine wpAnyY_takeF 26 (.bool false) rfl (by kernel_rfl) (fun _ _ _ h => h) rfl (by intro wz; go_simp) ?_
        try simp only [List.getElem_toArray, List.getElem_cons_succ, List.getElem_cons_zero, Act.put, List.setIfInBounds_toArray, List.set_cons_zero, List.set_cons_succ]
        refine wpAnyY_takeF 27 (.bool false) rfl (by kernel_rfl) (fun _ _ _ h => h) rfl (by intro wz; go_simp; try rfl) ?_
        try simp only [List.getElem_toArray, List.getElem_cons_succ, List.getElem_cons_zero, Act.put, List.setIfInBounds_toArray, List.set_cons_zero, List.set_cons_succ]
        refine wpAnyY_takeF 28 (.bool false) rfl (by kernel_rfl) (fun _ _ _ h => h) rfl (by intro wz; go_simp; try rfl) ?_
        try simp only [List.getElem_toArray, List.getElem_cons_succ, List.getElem_cons_zero, Act.put, List.setIfInBounds_toArray, List.set_cons_zero, List.set_cons_succ]
        refine wpAnyY_doneB (by kernel_rfl) ?_ _
        (try simp only [Exit.inBlock, Exit.then])
        refine HK28.out _ _ ?_
        clear HK28
        go_wp2
        (try simp only [Exit.inBlock, Exit.then])
        refine HK22.out _ _ ?_
        clear HK22
        go_wp2
        go_roundw
        case rel => exact ⟨i + 1, by go_num, by omega, Fwd⟩
        case measure => simp [intOf]; omega
      · have hpm := HPO.out.1 hki
        have hgt : ¬ (k : Int) < (i : Int) := by omega
        subst hpm
        by_cases hik : i = k
        · subst hik
          go_wp2
          (try simp only [Exit.inBlock, Exit.then])
          refine HK26.out _ _ ?_
          clear HK26
          refine wp_seq_k fun K28 hK28 => ?_
          have HK28 : Hid _ := hK28
          clear hK28
          have SS : (wr.alloc (.cells #[.int .i64 (p : Nat), .bool false, .int .i64 ((0 : Nat) : Int), .slice ya yn yc] 42)).drew.grownBy (wr.alloc (.cells #[.int .i64 (p : Nat), .bool false, .int .i64 ((0 : Nat) : Int), .slice ya yn yc] 42)).drew none := World.grownBy.refl _ _
          refine wp_regionM (fun wz => (wr.alloc (.cells #[.int .i64 (p : Nat), .bool false, .int .i64 ((0 : Nat) : Int), .slice ya yn yc] 42)).drew.grownBy wz none) [] #[false, false, false, false, false, false, false, false, false, false, false, false, false, false, false, false, false, false, false, false, false, false, false, false, false, false, false, false, false] rfl (by kernel_rfl) ?_
          generalize (wr.alloc (.cells #[.int .i64 (p : Nat), .bool false, .int .i64 ((0 : Nat) : Int), .slice ya yn yc] 42)).drew = wd at *
          refine wpAnyY_takeF 0 (.pointer (some ⟨wr.heap.size, 0, none⟩)) rfl (by kernel_rfl) (fun _ _ _ h => h) rfl (by intro wz; go_simp; try rfl) ?_
          try simp only [List.getElem_toArray, List.getElem_cons_succ, List.getElem_cons_zero, Act.put, List.setIfInBounds_toArray, List.set_cons_zero, List.set_cons_succ]
          refine wpAnyY_take [] 1 (.int .i64 (p : Nat)) rfl (by kernel_rfl) (fun _ _ _ h => h) SS rfl (by intro wz hz; have z := cellG q0 hz; go_simp) ?_
          try simp only [List.getElem_toArray, List.getElem_cons_succ, List.getElem_cons_zero, Act.put, List.setIfInBounds_toArray, List.set_cons_zero, List.set_cons_succ]
          refine wpAnyY_takeF 2 (.int .i64 (p : Nat)) rfl (by kernel_rfl) (fun _ _ _ h => h) rfl (by intro wz; go_simp; try rfl) ?_
          try simp only [List.getElem_toArray, List.getElem_cons_succ, List.getElem_cons_zero, Act.put, List.setIfInBounds_toArray, List.set_cons_zero, List.set_cons_succ]
          refine wpAnyY_takeF 3 (.bool false) rfl (by kernel_rfl) (fun _ _ _ h => h) rfl (by intro wz; go_simp) ?_
          try simp only [List.getElem_toArray, List.getElem_cons_succ, List.getElem_cons_zero, Act.put, List.setIfInBounds_toArray, List.set_cons_zero, List.set_cons_succ]
          refine wpAnyY_takeF 4 (.bool false) rfl (by kernel_rfl) (fun _ _ _ h => h) rfl (by intro wz; go_simp; try rfl) ?_
          try simp only [List.getElem_toArray, List.getElem_cons_succ, List.getElem_cons_zero, Act.put, List.setIfInBounds_toArray, List.set_cons_zero, List.set_cons_succ]
          refine wpAnyY_takeF 5 (.pointer (some ⟨wr.heap.size, 1, none⟩)) rfl (by kernel_rfl) (fun _ _ _ h => h) rfl (by intro wz; go_simp; try rfl) ?_
          try simp only [List.getElem_toArray, List.getElem_cons_succ, List.getElem_cons_zero, Act.put, List.setIfInBounds_toArray, List.set_cons_zero, List.set_cons_succ]
          refine wpAnyY_take [] 6 (.bool false) rfl (by kernel_rfl) (fun _ _ _ h => h) SS rfl (by intro wz hz; have z := cellG q1 hz; go_simp) ?_
          try simp only [List.getElem_toArray, List.getElem_cons_succ, List.getElem_cons_zero, Act.put, List.setIfInBounds_toArray, List.set_cons_zero, List.set_cons_succ]
          refine wpAnyY_takeF 7 (.bool false) rfl (by kernel_rfl) (fun _ _ _ h => h) rfl (by intro wz; go_simp; try rfl) ?_
          try simp only [List.getElem_toArray, List.getElem_cons_succ, List.getElem_cons_zero, Act.put, List.setIfInBounds_toArray, List.set_cons_zero, List.set_cons_succ]
          refine wpAnyY_takeF 8 (.bool false) rfl (by kernel_rfl) (fun _ _ _ h => h) rfl (by intro wz; go_simp; try rfl) ?_
          try simp only [List.getElem_toArray, List.getElem_cons_succ, List.getElem_cons_zero, Act.put, List.setIfInBounds_toArray, List.set_cons_zero, List.set_cons_succ]
          refine wpAnyY_takeF 9 (.pointer (some ⟨wr.heap.size, 2, none⟩)) rfl (by kernel_rfl) (fun _ _ _ h => h) rfl (by intro wz; go_simp; try rfl) ?_
          try simp only [List.getElem_toArray, List.getElem_cons_succ, List.getElem_cons_zero, Act.put, List.setIfInBounds_toArray, List.set_cons_zero, List.set_cons_succ]
          refine wpAnyY_take [] 10 (.int .i64 0) rfl (by kernel_rfl) (fun _ _ _ h => h) SS rfl (by intro wz hz; have z := cellG q2 hz; go_simp) ?_
          try simp only [List.getElem_toArray, List.getElem_cons_succ, List.getElem_cons_zero, Act.put, List.setIfInBounds_toArray, List.set_cons_zero, List.set_cons_succ]
          refine wpAnyY_takeF 11 (.bool false) rfl (by kernel_rfl) (fun _ _ _ h => h) rfl (by intro wz; go_simp) ?_
          try simp only [List.getElem_toArray, List.getElem_cons_succ, List.getElem_cons_zero, Act.put, List.setIfInBounds_toArray, List.set_cons_zero, List.set_cons_succ]
          refine wpAnyY_takeF 12 (.bool false) rfl (by kernel_rfl) (fun _ _ _ h => h) rfl (by intro wz; go_simp; try rfl) ?_
          try simp only [List.getElem_toArray, List.getElem_cons_succ, List.getElem_cons_zero, Act.put, List.setIfInBounds_toArray, List.set_cons_zero, List.set_cons_succ]
          refine wpAnyY_takeF 13 (.bool false) rfl (by kernel_rfl) (fun _ _ _ h => h) rfl (by intro wz; go_simp; try rfl) ?_
          try simp only [List.getElem_toArray, List.getElem_cons_succ, List.getElem_cons_zero, Act.put, List.setIfInBounds_toArray, List.set_cons_zero, List.set_cons_succ]
          refine wpAnyY_takeF 14 (.int .i64 (i : Nat)) rfl (by kernel_rfl) (fun _ _ _ h => h) rfl (by intro wz; go_simp; try rfl) ?_
          try simp only [List.getElem_toArray, List.getElem_cons_succ, List.getElem_cons_zero, Act.put, List.setIfInBounds_toArray, List.set_cons_zero, List.set_cons_succ]
          refine wpAnyY_takeF 15 (.int .i64 (i : Nat)) rfl (by kernel_rfl) (fun _ _ _ h => h) rfl (by intro wz; go_simp; try rfl) ?_
          try simp only [List.getElem_toArray, List.getElem_cons_succ, List.getElem_cons_zero, Act.put, List.setIfInBounds_toArray, List.set_cons_zero, List.set_cons_succ]
          refine wpAnyY_takeF 16 (.bool false) rfl (by kernel_rfl) (fun _ _ _ h => h) rfl (by intro wz; go_simp) ?_
          try simp only [List.getElem_toArray, List.getElem_cons_succ, List.getElem_cons_zero, Act.put, List.setIfInBounds_toArray, List.set_cons_zero, List.set_cons_succ]
          refine wpAnyY_takeF 17 (.bool false) rfl (by kernel_rfl) (fun _ _ _ h => h) rfl (by intro wz; go_simp; try rfl) ?_
          try simp only [List.getElem_toArray, List.getElem_cons_succ, List.getElem_cons_zero, Act.put, List.setIfInBounds_toArray, List.set_cons_zero, List.set_cons_succ]
          refine wpAnyY_skipT 18 rfl (by kernel_rfl) (fun _ _ _ h => h) rfl ?_
          try simp only [List.getElem_toArray, List.getElem_cons_succ, List.getElem_cons_zero, Act.put, List.setIfInBounds_toArray, List.set_cons_zero, List.set_cons_succ]
          refine wpAnyY_skipT 19 rfl (by kernel_rfl) (fun _ _ _ h => h) rfl ?_
          try simp only [List.getElem_toArray, List.getElem_cons_succ, List.getElem_cons_zero, Act.put, List.setIfInBounds_toArray, List.set_cons_zero, List.set_cons_succ]
          refine wpAnyY_skipT 20 rfl (by kernel_rfl) (fun _ _ _ h => h) rfl ?_
          try simp only [List.getElem_toArray, List.getElem_cons_succ, List.getElem_cons_zero, Act.put, List.setIfInBounds_toArray, List.set_cons_zero, List.set_cons_succ]
          refine wpAnyY_skipT 21 rfl (by kernel_rfl) (fun _ _ _ h => h) rfl ?_
          try simp only [List.getElem_toArray, List.getElem_cons_succ, List.getElem_cons_zero, Act.put, List.setIfInBounds_toArray, List.set_cons_zero, List.set_cons_succ]
          refine wpAnyY_skipT 22 rfl (by kernel_rfl) (fun _ _ _ h => h) rfl ?_
          try simp only [List.getElem_toArray, List.getElem_cons_succ, List.getElem_cons_zero, Act.put, List.setIfInBounds_toArray, List.set_cons_zero, List.set_cons_succ]
          refine wpAnyY_skipT 23 rfl (by kernel_rfl) (fun _ _ _ h => h) rfl ?_
          try simp only [List.getElem_toArray, List.getElem_cons_succ, List.getElem_cons_zero, Act.put, List.setIfInBounds_toArray, List.set_cons_zero, List.set_cons_succ]
          refine wpAnyY_skipT 24 rfl (by kernel_rfl) (fun _ _ _ h => h) rfl ?_
          try simp only [List.getElem_toArray, List.getElem_cons_succ, List.getElem_cons_zero, Act.put, List.setIfInBounds_toArray, List.set_cons_zero, List.set_cons_succ]
          refine wpAnyY_skipT 25 rfl (by kernel_rfl) (fun _ _ _ h => h) rfl ?_
          try simp only [List.getElem_toArray, List.getElem_cons_succ, List.getElem_cons_zero, Act.put, List.setIfInBounds_toArray, List.set_cons_zero, List.set_cons_succ]
          refine wpAnyY_skipT 26 rfl (by kernel_rfl) (fun _ _ _ h => h) rfl ?_
          try simp only [List.getElem_toArray, List.getElem_cons_succ, List.getElem_cons_zero, Act.put, List.setIfInBounds_toArray, List.set_cons_zero, List.set_cons_succ]
          refine wpAnyY_takeF 27 (.bool false) rfl (by kernel_rfl) (fun _ _ _ h => h) rfl (by intro wz; go_simp; try rfl) ?_
          try simp only [List.getElem_toArray, List.getElem_cons_succ, List.getElem_cons_zero, Act.put, List.setIfInBounds_toArray, List.set_cons_zero, List.set_cons_succ]
          refine wpAnyY_takeF 28 (.bool false) rfl (by kernel_rfl) (fun _ _ _ h => h) rfl (by intro wz; go_simp; try rfl) ?_
          try simp only [List.getElem_toArray, List.getElem_cons_succ, List.getElem_cons_zero, Act.put, List.setIfInBounds_toArray, List.set_cons_zero, List.set_cons_succ]
          refine wpAnyY_doneB (by kernel_rfl) ?_ _
          (try simp only [Exit.inBlock, Exit.then])
          refine HK28.out _ _ ?_
          clear HK28
          go_wp2
          (try simp only [Exit.inBlock, Exit.then])
          refine HK22.out _ _ ?_
          clear HK22
          go_wp2
          go_roundw
          case rel => exact ⟨i + 1, by go_num, by omega, Fwd⟩
          case measure => simp [intOf]; omega
        · have hne : ¬ (i : Int) = (k : Int) := by omega
          have hDe := HDK.out hik
          subst hDe
          go_wp2
          (try simp only [Exit.inBlock, Exit.then])
          refine HK26.out _ _ ?_
          clear HK26
          refine wp_seq_k fun K28 hK28 => ?_
          have HK28 : Hid _ := hK28
          clear hK28
          have SS : (wr.alloc (.cells #[.int .i64 (p : Nat), .bool false, .int .i64 ((0 : Nat) : Int), .slice ya yn yc] 42)).drew.grownBy (wr.alloc (.cells #[.int .i64 (p : Nat), .bool false, .int .i64 ((0 : Nat) : Int), .slice ya yn yc] 42)).drew none := World.grownBy.refl _ _
          refine wp_regionM (fun wz => (wr.alloc (.cells #[.int .i64 (p : Nat), .bool false, .int .i64 ((0 : Nat) : Int), .slice ya yn yc] 42)).drew.grownBy wz none) [] #[false, false, false, false, false, false, false, false, false, false, false, false, false, false, false, false, false, false, false, false, false, false, false, false, false, false, false, false, false] rfl (by kernel_rfl) ?_
          generalize (wr.alloc (.cells #[.int .i64 (p : Nat), .bool false, .int .i64 ((0 : Nat) : Int), .slice ya yn yc] 42)).drew = wd at *
          refine wpAnyY_takeF 0 (.pointer (some ⟨wr.heap.size, 0, none⟩)) rfl (by kernel_rfl) (fun _ _ _ h => h) rfl (by intro wz; go_simp; try rfl) ?_
          try simp only [List.getElem_toArray, List.getElem_cons_succ, List.getElem_cons_zero, Act.put, List.setIfInBounds_toArray, List.set_cons_zero, List.set_cons_succ]
          refine wpAnyY_take [] 1 (.int .i64 (p : Nat)) rfl (by kernel_rfl) (fun _ _ _ h => h) SS rfl (by intro wz hz; have z := cellG q0 hz; go_simp) ?_
          try simp only [List.getElem_toArray, List.getElem_cons_succ, List.getElem_cons_zero, Act.put, List.setIfInBounds_toArray, List.set_cons_zero, List.set_cons_succ]
          refine wpAnyY_takeF 2 (.int .i64 (p : Nat)) rfl (by kernel_rfl) (fun _ _ _ h => h) rfl (by intro wz; go_simp; try rfl) ?_
          try simp only [List.getElem_toArray, List.getElem_cons_succ, List.getElem_cons_zero, Act.put, List.setIfInBounds_toArray, List.set_cons_zero, List.set_cons_succ]
          refine wpAnyY_takeF 3 (.bool false) rfl (by kernel_rfl) (fun _ _ _ h => h) rfl (by intro wz; go_simp) ?_
          try simp only [List.getElem_toArray, List.getElem_cons_succ, List.getElem_cons_zero, Act.put, List.setIfInBounds_toArray, List.set_cons_zero, List.set_cons_succ]
          refine wpAnyY_takeF 4 (.bool false) rfl (by kernel_rfl) (fun _ _ _ h => h) rfl (by intro wz; go_simp; try rfl) ?_
          try simp only [List.getElem_toArray, List.getElem_cons_succ, List.getElem_cons_zero, Act.put, List.setIfInBounds_toArray, List.set_cons_zero, List.set_cons_succ]
          refine wpAnyY_takeF 5 (.pointer (some ⟨wr.heap.size, 1, none⟩)) rfl (by kernel_rfl) (fun _ _ _ h => h) rfl (by intro wz; go_simp; try rfl) ?_
          try simp only [List.getElem_toArray, List.getElem_cons_succ, List.getElem_cons_zero, Act.put, List.setIfInBounds_toArray, List.set_cons_zero, List.set_cons_succ]
          refine wpAnyY_take [] 6 (.bool false) rfl (by kernel_rfl) (fun _ _ _ h => h) SS rfl (by intro wz hz; have z := cellG q1 hz; go_simp) ?_
          try simp only [List.getElem_toArray, List.getElem_cons_succ, List.getElem_cons_zero, Act.put, List.setIfInBounds_toArray, List.set_cons_zero, List.set_cons_succ]
          refine wpAnyY_takeF 7 (.bool false) rfl (by kernel_rfl) (fun _ _ _ h => h) rfl (by intro wz; go_simp; try rfl) ?_
          try simp only [List.getElem_toArray, List.getElem_cons_succ, List.getElem_cons_zero, Act.put, List.setIfInBounds_toArray, List.set_cons_zero, List.set_cons_succ]
          refine wpAnyY_takeF 8 (.bool false) rfl (by kernel_rfl) (fun _ _ _ h => h) rfl (by intro wz; go_simp; try rfl) ?_
          try simp only [List.getElem_toArray, List.getElem_cons_succ, List.getElem_cons_zero, Act.put, List.setIfInBounds_toArray, List.set_cons_zero, List.set_cons_succ]
          refine wpAnyY_takeF 9 (.pointer (some ⟨wr.heap.size, 2, none⟩)) rfl (by kernel_rfl) (fun _ _ _ h => h) rfl (by intro wz; go_simp; try rfl) ?_
          try simp only [List.getElem_toArray, List.getElem_cons_succ, List.getElem_cons_zero, Act.put, List.setIfInBounds_toArray, List.set_cons_zero, List.set_cons_succ]
          refine wpAnyY_take [] 10 (.int .i64 0) rfl (by kernel_rfl) (fun _ _ _ h => h) SS rfl (by intro wz hz; have z := cellG q2 hz; go_simp) ?_
          try simp only [List.getElem_toArray, List.getElem_cons_succ, List.getElem_cons_zero, Act.put, List.setIfInBounds_toArray, List.set_cons_zero, List.set_cons_succ]
          refine wpAnyY_takeF 11 (.bool false) rfl (by kernel_rfl) (fun _ _ _ h => h) rfl (by intro wz; go_simp) ?_
          try simp only [List.getElem_toArray, List.getElem_cons_succ, List.getElem_cons_zero, Act.put, List.setIfInBounds_toArray, List.set_cons_zero, List.set_cons_succ]
          refine wpAnyY_takeF 12 (.bool false) rfl (by kernel_rfl) (fun _ _ _ h => h) rfl (by intro wz; go_simp; try rfl) ?_
          try simp only [List.getElem_toArray, List.getElem_cons_succ, List.getElem_cons_zero, Act.put, List.setIfInBounds_toArray, List.set_cons_zero, List.set_cons_succ]
          refine wpAnyY_takeF 13 (.bool false) rfl (by kernel_rfl) (fun _ _ _ h => h) rfl (by intro wz; go_simp; try rfl) ?_
          try simp only [List.getElem_toArray, List.getElem_cons_succ, List.getElem_cons_zero, Act.put, List.setIfInBounds_toArray, List.set_cons_zero, List.set_cons_succ]
          refine wpAnyY_takeF 14 (.int .i64 (i : Nat)) rfl (by kernel_rfl) (fun _ _ _ h => h) rfl (by intro wz; go_simp; try rfl) ?_
          try simp only [List.getElem_toArray, List.getElem_cons_succ, List.getElem_cons_zero, Act.put, List.setIfInBounds_toArray, List.set_cons_zero, List.set_cons_succ]
          refine wpAnyY_takeF 15 (.int .i64 (k : Nat)) rfl (by kernel_rfl) (fun _ _ _ h => h) rfl (by intro wz; go_simp; try rfl) ?_
          try simp only [List.getElem_toArray, List.getElem_cons_succ, List.getElem_cons_zero, Act.put, List.setIfInBounds_toArray, List.set_cons_zero, List.set_cons_succ]
          refine wpAnyY_takeF 16 (.bool true) rfl (by kernel_rfl) (fun _ _ _ h => h) rfl (by intro wz; go_simp) ?_
          try simp only [List.getElem_toArray, List.getElem_cons_succ, List.getElem_cons_zero, Act.put, List.setIfInBounds_toArray, List.set_cons_zero, List.set_cons_succ]
          refine wpAnyY_takeF 17 (.bool true) rfl (by kernel_rfl) (fun _ _ _ h => h) rfl (by intro wz; go_simp; try rfl) ?_
          try simp only [List.getElem_toArray, List.getElem_cons_succ, List.getElem_cons_zero, Act.put, List.setIfInBounds_toArray, List.set_cons_zero, List.set_cons_succ]
          refine wpAnyY_takeF 18 (.pointer (some ⟨wr.heap.size, 3, none⟩)) rfl (by kernel_rfl) (fun _ _ _ h => h) rfl (by intro wz; go_simp; try rfl) ?_
          try simp only [List.getElem_toArray, List.getElem_cons_succ, List.getElem_cons_zero, Act.put, List.setIfInBounds_toArray, List.set_cons_zero, List.set_cons_succ]
          refine wpAnyY_take [] 19 (.slice ya yn yc) rfl (by kernel_rfl) (fun _ _ _ h => h) SS rfl (by intro wz hz; have z := cellG q3 hz; go_simp) ?_
          try simp only [List.getElem_toArray, List.getElem_cons_succ, List.getElem_cons_zero, Act.put, List.setIfInBounds_toArray, List.set_cons_zero, List.set_cons_succ]
          refine wpAnyY_take [] 20 (.string (strB D')) rfl (by kernel_rfl) (fun _ _ _ h => h) SS rfl (by intro wz hz; have cvz := str_any wz ya yn yc D' (hyR.keep hz); go_simp) ?_
          try simp only [List.getElem_toArray, List.getElem_cons_succ, List.getElem_cons_zero, Act.put, List.setIfInBounds_toArray, List.set_cons_zero, List.set_cons_succ]
          refine wpAnyY_takeF 21 (.slice (some ⟨g8, 0, none⟩) N c8) rfl (by kernel_rfl) (fun _ _ _ h => h) rfl (by intro wz; go_simp; try rfl) ?_
          try simp only [List.getElem_toArray, List.getElem_cons_succ, List.getElem_cons_zero, Act.put, List.setIfInBounds_toArray, List.set_cons_zero, List.set_cons_succ]
          refine wpAnyY_takeF 22 (.int .i64 (i : Nat)) rfl (by kernel_rfl) (fun _ _ _ h => h) rfl (by intro wz; go_simp; try rfl) ?_
          try simp only [List.getElem_toArray, List.getElem_cons_succ, List.getElem_cons_zero, Act.put, List.setIfInBounds_toArray, List.set_cons_zero, List.set_cons_succ]
          refine wpAnyY_takeF 23 (.pointer (some ⟨g8, i, none⟩)) rfl (by kernel_rfl) (fun _ _ _ h => h) rfl (by intro wz; go_simp; try rfl) ?_
          try simp only [List.getElem_toArray, List.getElem_cons_succ, List.getElem_cons_zero, Act.put, List.setIfInBounds_toArray, List.set_cons_zero, List.set_cons_succ]
          refine wpAnyY_take [] 24 (.slice (some ⟨gd, 0, none⟩) D'.length cd) rfl (by kernel_rfl) (fun _ _ _ h => h) SS rfl (by intro wz hz; have z := cellG kd hz; go_simp) ?_
          try simp only [List.getElem_toArray, List.getElem_cons_succ, List.getElem_cons_zero, Act.put, List.setIfInBounds_toArray, List.set_cons_zero, List.set_cons_succ]
          refine wpAnyY_take [] 25 (.string (strB D')) rfl (by kernel_rfl) (fun _ _ _ h => h) SS rfl (by intro wz hz; have cvz := str_any wz (some ⟨gd, 0, none⟩) D'.length cd D' (hdR.keep hz); go_simp) ?_
          try simp only [List.getElem_toArray, List.getElem_cons_succ, List.getElem_cons_zero, Act.put, List.setIfInBounds_toArray, List.set_cons_zero, List.set_cons_succ]
          refine wpAnyY_takeF 26 (.bool false) rfl (by kernel_rfl) (fun _ _ _ h => h) rfl (by intro wz; go_simp) ?_
          try simp only [List.getElem_toArray, List.getElem_cons_succ, List.getElem_cons_zero, Act.put, List.setIfInBounds_toArray, List.set_cons_zero, List.set_cons_succ]
          refine wpAnyY_takeF 27 (.bool false) rfl (by kernel_rfl) (fun _ _ _ h => h) rfl (by intro wz; go_simp; try rfl) ?_
          try simp only [List.getElem_toArray, List.getElem_cons_succ, List.getElem_cons_zero, Act.put, List.setIfInBounds_toArray, List.set_cons_zero, List.set_cons_succ]
          refine wpAnyY_takeF 28 (.bool false) rfl (by kernel_rfl) (fun _ _ _ h => h) rfl (by intro wz; go_simp; try rfl) ?_
          try simp only [List.getElem_toArray, List.getElem_cons_succ, List.getElem_cons_zero, Act.put, List.setIfInBounds_toArray, List.set_cons_zero, List.set_cons_succ]
          refine wpAnyY_doneB (by kernel_rfl) ?_ _
          (try simp only [Exit.inBlock, Exit.then])
          refine HK28.out _ _ ?_
          clear HK28
          go_wp2
          (try simp only [Exit.inBlock, Exit.then])
          refine HK22.out _ _ ?_
          clear HK22
          go_wp2
          go_roundw
          case rel => exact ⟨i + 1, by go_num, by omega, Fwd⟩
          case measure => simp [intOf]; omega
    · obtain rfl : i = N := by omega
      have hge : ¬ ((i : Int) < (i : Int)) := by omega
      have HF : Hid _ := F0.trans Fr (fun _ _ h => h)
      go_wp2
      go_ret
      exact ⟨rfl, HF.out.gr⟩

set_option maxHeartbeats 16000000 in
theorem sl_18 {u0 u1 u2 u3 u4 u5 u7 u8 u9 u10 u11 u12 u13 u15 u18 u21 u22 u23 u24 u25 u26 u27 u28 u29 u30 u31 u32 u33 u34 u35 u36 u37 u38 u39 u40 u41 u42 u43 u44 u45 u46 u47 u48 u49 u50 u51 u52 u53 u54 u55 u56 u57 u58 u59 u60 u61 u62 u63 u64 u65 u66 u67 u68 u69 u70 u71 u72 u73 u74 u75 u76 u77 u78 u79 u80 u81 u82 u83 u84 u85 u86 u87 u88 u89 u90 u91 u92 u93 u94 u95 u96 u97 u98 u99 u100 u101 u102 u103 u104 u105 u106 u107 u108 u109 u110 u111 u112 u113 u114 u115 u116 u117 u118 u119 u120 u121 u122 u123 u124 u125 u126 u127 u128 u129 u130 u131 u132 u133 u134 u135 u136 u137 u138 u139 u140 u141 u142 u143 u144 u145 u146 u147 u148 u149 u150 u151 u152 u153 u154 u155 u156 u157 u158 u159 u160 u161 u162 u163 u164 u165 u166 u167 u168 u169 u170 u171 : Value} (w0 W : World) (g N L SZ f h m k v x : Nat) (sh : Int) (mo : Bool) (a8 a9 : Option Addr) (n9 c8 c9 : Nat) (V : List Value) (ds : List (List Nat)) (hN : ds.length = N) (hN2 : N ≤ 20) (hL1 : 1 ≤ L) (hL : L ≤ 40) (hSZ : SZ = 32 + 8 * L) (hf : f ≤ 3) (hh : h ≤ 7) (hm : m ≤ 8) (hk : k + 1 < N) (hv : v < 8 * L) (hsh : sh = if mo then 1 else -1) (hn9 : n9 ≤ 20000)
    (b : BxS W g 23 #[.int .i64 (L : Nat), .int .i64 (f : Nat), .int .i64 (h : Nat), .int .i64 (m : Nat)]) (hA : Ans W w0.heap.size a9 n9 c9 (slB (catF ds) (k * (32 + 8 * L) + 32 + v) x mo)) (hX : AnsX 25 W w0.heap.size a8 N c8 V) (hR : PiR W V ds w0.heap.size (fun _ => False)) (hd : ∀ d, d ∈ ds → d.length = L ∧ IsB d) (F0 : Frm (fun _ => False) w0 W) :
    Code.wp Try.prog (tailR 18 (Try.f6.body.getD .skip)) (bodyPost Try.prog Try.f6 (fun e w' => e = .returned (.bool true) ∧ w0.grownBy w' none)) (Act.mk (List.toArray (u0 :: u1 :: u2 :: u3 :: u4 :: u5 :: (.pointer (some ⟨g, 0, none⟩)) :: u7 :: u8 :: u9 :: u10 :: u11 :: u12 :: u13 :: (.slice a8 N c8) :: u15 :: (.int .i64 (SZ : Nat)) :: (.int .i64 (k : Nat)) :: u18 :: (.slice a9 n9 c9) :: (.int .i64 sh) :: u21 :: u22 :: u23 :: u24 :: u25 :: u26 :: u27 :: u28 :: u29 :: u30 :: u31 :: u32 :: u33 :: u34 :: u35 :: u36 :: u37 :: u38 :: u39 :: u40 :: u41 :: u42 :: u43 :: u44 :: u45 :: u46 :: u47 :: u48 :: u49 :: u50 :: u51 :: u52 :: u53 :: u54 :: u55 :: u56 :: u57 :: u58 :: u59 :: u60 :: u61 :: u62 :: u63 :: u64 :: u65 :: u66 :: u67 :: u68 :: u69 :: u70 :: u71 :: u72 :: u73 :: u74 :: u75 :: u76 :: u77 :: u78 :: u79 :: u80 :: u81 :: u82 :: u83 :: u84 :: u85 :: u86 :: u87 :: u88 :: u89 :: u90 :: u91 :: u92 :: u93 :: u94 :: u95 :: u96 :: u97 :: u98 :: u99 :: u100 :: u101 :: u102 :: u103 :: u104 :: u105 :: u106 :: u107 :: u108 :: u109 :: u110 :: u111 :: u112 :: u113 :: u114 :: u115 :: u116 :: u117 :: u118 :: u119 :: u120 :: u121 :: u122 :: u123 :: u124 :: u125 :: u126 :: u127 :: u128 :: u129 :: u130 :: u131 :: u132 :: u133 :: u134 :: u135 :: u136 :: u137 :: u138 :: u139 :: u140 :: u141 :: u142 :: u143 :: u144 :: u145 :: u146 :: u147 :: u148 :: u149 :: u150 :: u151 :: u152 :: u153 :: u154 :: u155 :: u156 :: u157 :: u158 :: u159 :: u160 :: u161 :: u162 :: u163 :: u164 :: u165 :: u166 :: u167 :: u168 :: u169 :: u170 :: u171 :: [])) []) W := by
  conv => enter [2]; whnf
  have hnn : (slB (catF ds) (k * (32 + 8 * L) + 32 + v) x mo).length = n9 := hA.len
  have gB := World.grownBy_alloc W (.cells #[.slice a9 n9 c9] 25) none
  have OB := heap_alloc_new W (.cells #[.slice a9 n9 c9] 25)
  have hP1 : RdPs (W.alloc (.cells #[.slice a9 n9 c9] 25)) (some ⟨W.heap.size, 0, none⟩) 1 1 [slB (catF ds) (k * (32 + 8 * L) + 32 + v) x mo] := ⟨rfl, fun _ => ⟨W.heap.size, 0, rfl, fun i B hi => by
    cases i with
    | zero =>
      have e : slB (catF ds) (k * (32 + 8 * L) + 32 + v) x mo = B := Option.some.inj hi
      subst e
      exact ⟨a9, n9, c9, cell_of_row _ _ 0 _ _ _ OB, hA.rd.keep gB⟩
    | succ i => cases hi⟩⟩
  have hLi := listen_any ⟨L, f, h, m⟩ (some ⟨W.heap.size, 0, none⟩) 1 1 [slB (catF ds) (k * (32 + 8 * L) + 32 + v) x mo] (W.alloc (.cells #[.slice a9 n9 c9] 25)) hP1 (by decide) (fun B hB => by rw [List.mem_singleton.1 hB]; omega) (by show (slB _ _ _ _).length + 0 ≤ _; omega) hL1 (by show L ≤ 2048; omega) (by show f ≤ 8; omega) (by show h ≤ 12; omega) hm
  obtain ⟨T, bb, hT1, hT2, hT⟩ := slip_told ⟨L, f, h, m⟩ mo x k v ds hL1 hf hh (fun d h => hd d h) (by omega) hv
  rw [hT1, hT2] at hLi
  rw [hN] at hT
  unfold ruV at hLi
  dsimp only at hLi
  have c0 := b.cell 0 (by show 0 < 4; decide)
  have c1 := b.cell 1 (by show 1 < 4; decide)
  have c2 := b.cell 2 (by show 2 < 4; decide)
  have c3 := b.cell 3 (by show 3 < 4; decide)
  simp only [List.getElem_toArray, List.getElem_cons_zero, List.getElem_cons_succ] at c0 c1 c2 c3
  have HT : Hid _ := hT
  have HN : Hid _ := hN
  have Hn9 : Hid _ := hnn
  have HSZ : Hid _ := hSZ
  have HSH : Hid _ := hsh
  clear hT hN hnn hP1 hT1 hT2 OB hSZ hsh
  refine wp_seq_k fun K18 hK18 => ?_
  have HK18 : Hid _ := hK18
  clear hK18
  go_wp2_with (go_at_call 8; refine hLi.mono ?_; rintro e w1 ⟨a4, a5, a6, c4, c5, c6, rfl, hLs, g1⟩)
  (try simp only [Exit.inBlock, Exit.then])
  refine HK18.out _ _ ?_
  clear HK18
  have gF : Frm (fun _ => False) W w1 := (Frm.of (p := fun _ => False) gB (fun k e _ => by cases e)).trans (Frm.of (p := fun _ => False) g1 (fun k e _ => by cases e)) (fun _ _ h => h)
  have F1 := F0.trans gF (fun _ _ h => h)
  have hX1 := hX.frm gF (fun _ _ h => h)
  have hR1 := hR.frm (fun _ => False) gF (fun _ h => h.elim) (fun d h => by rw [(hd d h).1]; omega) (fun _ h => h.elim)
  obtain ⟨V4, hX4, dv4, hO4⟩ := hLs.o
  obtain ⟨v4, hv4⟩ : ∃ v, V4 = [v] := List.length_eq_one_iff.1 hO4.1
  subst hv4
  obtain ⟨ys, av, cv, rfl, hown, hdat, hys⟩ := (hO4.2 0 _ _ rfl rfl).ex
  have hTl := HT.out.len
  have hyl : ys.length = N := by
    have h1 := congrArg List.length hys
    rw [List.length_map, hTl] at h1
    exact h1
  rw [hyl] at hown hX4
  obtain ⟨g4, rfl⟩ : ∃ g4, a4 = some ⟨g4, 0, none⟩ := by
    rcases hX4.cases with ⟨_, h2, _⟩ | ⟨g4, h1, _⟩
    · omega
    · exact ⟨g4, h1⟩
  have k4 : w1.cell? ⟨g4, 0, none⟩ = some (.slice av N cv) := hX4.cell 0 _ rfl
  have hy : ∀ i, i < N → ∃ y, ys[i]? = some y ∧ (∃ D, absF y.1 = (posS SZ k mo i, false, 0, D) ∧ (i ≠ k → D = ds.getD i [])) ∧ Ans w1 (W.alloc (.cells #[.slice a9 n9 c9] 25)).heap.size y.1.a y.1.n y.2 y.1.D := fun i hi => by
    obtain ⟨D, h1, h2⟩ := HT.out.at' i hi
    rw [← hys, List.getElem?_map] at h1
    cases hyi : ys[i]? with
    | none => rw [hyi] at h1; cases h1
    | some y =>
      rw [hyi] at h1
      have h3 : absF y.1 = (posS (32 + 8 * L) k mo i, false, 0, D) := Option.some.inj h1
      rw [← HSZ.out] at h3
      exact ⟨y, rfl, ⟨D, h3, h2⟩, (hdat y (List.mem_of_getElem? hyi)).1⟩
  have HR1 : Hid _ := hR1
  have HO : Hid _ := hown
  have HYY : Hid _ := hy
  have HX1 : Hid _ := hX1
  have hone : ((1 : Nat) : Int) = 1 := rfl
  clear hR1 hown hy hX1 hys hdat hyl hTl hX4 hO4 hX hR hA gB g1 c0 c1 c2 c3 hLi b
  refine wp_seq_k fun K19 hK19 => ?_
  have HK19 : Hid _ := hK19
  clear hK19
  go_wp2
  (try simp only [Exit.inBlock, Exit.then])
  refine HK19.out _ _ ?_
  clear HK19
  exact sl_21 w0 w1 g N SZ k g4 c4 sh mo a8 av c8 cv _ V ds ys _ HN.out hN2 (by have := HSZ.out; omega) HSH.out HX1.out HR1.out k4 HO.out HYY.out F1
end Go.Proofs.Ythdjpbfknbafgaa
