import Derived.Test.YthdjpbfknbafgaaTCa
namespace Go.Proofs.Ythdjpbfknbafgaa
open Go.RowKit Go.Shelf
set_option maxRecDepth 100000
set_option linter.unusedVariables false
set_option linter.unusedSimpArgs false
attribute [local go_sem] Oper.semAt_some

theorem flY_atC (ys : List Fy) (k : Nat) (y : Fy) (h : ys[k]? = some y) (j : Nat) (hj : j < 4) : (flY ys)[k * 4 + j]? = (cellsY y)[j]? := by
  induction ys generalizing k with
  | nil => simp at h
  | cons a ys ih =>
    show (cellsY a ++ flY ys)[k * 4 + j]? = _
    cases k with
    | zero =>
      simp only [List.getElem?_cons_zero, Option.some.injEq] at h
      subst h
      rw [Nat.zero_mul, Nat.zero_add, List.getElem?_append_left (by show j < 4; exact hj)]
    | succ k =>
      rw [List.getElem?_cons_succ] at h
      rw [List.getElem?_append_right (by show 4 ≤ _; omega)]
      have : (cellsY a).length = 4 := rfl
      rw [this, show (k + 1) * 4 + j - 4 = k * 4 + j from by omega]
      exact ih k h
theorem cellGC {w w' : World} {k o : Nat} {v : Value} (h : w.cell? ⟨k, o, none⟩ = some v) (hg : w.grownBy w' none) : w'.cell? ⟨k, o, none⟩ = some v :=
  cell_frm h (Frm.of (p := fun _ => False) hg (fun k e _ => by cases e)) (fun h => h)
theorem Try.info_fdC : (Try.prog.info? 42).map (·.size) = some 4 := by kernel_rfl
set_option maxHeartbeats 16000000 in
theorem cu_24 {u0 u1 u2 u3 u4 u5 u7 u8 u9 u10 u12 u13 u14 u15 u16 u17 u18 u19 u20 u21 u22 u24 u25 u26 u27 u28 u29 u30 u31 u32 u33 u34 u35 u36 u37 u38 u39 u40 u41 u42 u43 u44 u45 u46 u47 u48 u49 u50 u51 u52 u53 u54 u55 u56 u57 u58 u59 u60 u61 u62 u63 u64 u65 u66 u67 u68 u69 u70 u71 u72 u73 u74 u75 u76 u77 u78 u79 u80 u81 u82 u83 u84 u85 u86 u87 u88 u89 u90 u91 u92 u93 u94 u95 u96 u97 u98 u99 u100 u101 u102 u103 u104 u105 u106 u107 u108 u109 u110 u111 u112 u113 u114 u115 u116 u117 u118 u119 u120 u121 u122 u123 u124 u125 u126 u127 u128 u129 u130 u131 u132 u133 u134 u135 u136 u137 u138 u139 u140 u141 u142 u143 u144 u145 u146 u147 u148 u149 u150 u151 u152 u153 u154 u155 u156 u157 u158 u159 u160 u161 u162 u163 u164 u165 u166 u167 u168 u169 u170 u171 u172 u173 u174 u175 u176 u177 u178 u179 u180 u181 u182 u183 u184 u185 u186 u187 u188 u189 u190 : Value} (w0 W : World) (p4 q4 n ca cv lo1 lo2 : Nat) (aa av : Option Addr) (ys zs : List Fy) (k4 : W.cell? ⟨p4, 0, none⟩ = some (.slice av n cv)) (hn : n ≤ 1048576)
    (hz : W.ownsRow lo1 42 4 (.slice aa n ca) n (flY zs)) (hy : W.ownsRow lo2 42 4 (.slice av n cv) n (flY ys)) (hzl : zs.length = n) (hyl : ys.length = n)
    (hzd : ∀ y, y ∈ zs → Ans W lo1 y.1.a y.1.n y.2 y.1.D) (hyd : ∀ y, y ∈ ys → Ans W lo2 y.1.a y.1.n y.2 y.1.D) (he : zs.map (fun y => absF y.1) = ys.map (fun y => absF y.1)) (F0 : Frm (fun _ => False) w0 W) :
    Code.wp Try.prog (tailR 24 (Try.f4.body.getD .skip)) (bodyPost Try.prog Try.f4 (fun e w' => e = .returned (.bool true) ∧ w0.grownBy w' none)) (Act.mk (List.toArray (u0 :: u1 :: u2 :: u3 :: u4 :: u5 :: (.bool false) :: u7 :: u8 :: u9 :: u10 :: (.slice (some ⟨p4, 0, none⟩) 1 q4) :: u12 :: u13 :: u14 :: u15 :: u16 :: u17 :: u18 :: u19 :: u20 :: u21 :: u22 :: (.slice aa n ca) :: u24 :: u25 :: u26 :: u27 :: u28 :: u29 :: u30 :: u31 :: u32 :: u33 :: u34 :: u35 :: u36 :: u37 :: u38 :: u39 :: u40 :: u41 :: u42 :: u43 :: u44 :: u45 :: u46 :: u47 :: u48 :: u49 :: u50 :: u51 :: u52 :: u53 :: u54 :: u55 :: u56 :: u57 :: u58 :: u59 :: u60 :: u61 :: u62 :: u63 :: u64 :: u65 :: u66 :: u67 :: u68 :: u69 :: u70 :: u71 :: u72 :: u73 :: u74 :: u75 :: u76 :: u77 :: u78 :: u79 :: u80 :: u81 :: u82 :: u83 :: u84 :: u85 :: u86 :: u87 :: u88 :: u89 :: u90 :: u91 :: u92 :: u93 :: u94 :: u95 :: u96 :: u97 :: u98 :: u99 :: u100 :: u101 :: u102 :: u103 :: u104 :: u105 :: u106 :: u107 :: u108 :: u109 :: u110 :: u111 :: u112 :: u113 :: u114 :: u115 :: u116 :: u117 :: u118 :: u119 :: u120 :: u121 :: u122 :: u123 :: u124 :: u125 :: u126 :: u127 :: u128 :: u129 :: u130 :: u131 :: u132 :: u133 :: u134 :: u135 :: u136 :: u137 :: u138 :: u139 :: u140 :: u141 :: u142 :: u143 :: u144 :: u145 :: u146 :: u147 :: u148 :: u149 :: u150 :: u151 :: u152 :: u153 :: u154 :: u155 :: u156 :: u157 :: u158 :: u159 :: u160 :: u161 :: u162 :: u163 :: u164 :: u165 :: u166 :: u167 :: u168 :: u169 :: u170 :: u171 :: u172 :: u173 :: u174 :: u175 :: u176 :: u177 :: u178 :: u179 :: u180 :: u181 :: u182 :: u183 :: u184 :: u185 :: u186 :: u187 :: u188 :: u189 :: u190 :: [])) []) W := by
  conv => enter [2]; whnf
  refine wp_seq_k fun K24 hK24 => ?_
  have HK24 : Hid _ := hK24
  clear hK24
  go_wp2
  (try simp only [Exit.inBlock, Exit.then])
  refine HK24.out _ _ ?_
  clear HK24
  go_wp2
  have HE : Hid _ := he
  have HZL : Hid _ := hzl
  have HYL : Hid _ := hyl
  clear he hzl hyl
  go_loopw [25] (fun v wr => ∃ i : Nat, v = .int .i64 i ∧ i ≤ n ∧ Frm (fun _ => False) W wr) (fun v _ => n - (intOf v).toNat)
  case atStart => exact ⟨0, rfl, Nat.zero_le _, Frm.refl _ _⟩
  case round =>
    obtain ⟨i, rfl, hi, Fr⟩ := hrel
    by_cases hlt : i < n
    · have hin : (i : Int) < (n : Int) := by omega
      obtain ⟨y, hyi⟩ : ∃ y, ys[i]? = some y := ⟨_, List.getElem?_eq_getElem (by rw [HYL.out]; exact hlt)⟩
      obtain ⟨z, hzi⟩ : ∃ z, zs[i]? = some z := ⟨_, List.getElem?_eq_getElem (by rw [HZL.out]; exact hlt)⟩
      have heq : absF z.1 = absF y.1 := by
        have h1 := congrArg (fun l => l[i]?) HE.out
        simp only [List.getElem?_map, hyi, hzi, Option.map_some] at h1
        exact Option.some.inj h1
      have hyA := (hyd y (List.mem_of_getElem? hyi))
      have hzA := (hzd z (List.mem_of_getElem? hzi))
      obtain ⟨⟨p, tu, mi, ya, yn, D⟩, yc⟩ := y
      obtain ⟨⟨p', tu', mi', za, zn, D'⟩, zc⟩ := z
      obtain ⟨rfl, rfl, rfl, rfl⟩ : p' = p ∧ tu' = tu ∧ mi' = mi ∧ D' = D := by
        have e2 := congrArg Prod.snd heq
        have e4 := congrArg Prod.snd e2
        exact ⟨congrArg Prod.fst heq, congrArg Prod.fst e2, congrArg Prod.fst e4, congrArg Prod.snd e4⟩
      clear heq
      dsimp only at hyA hzA
      obtain ⟨gv, rfl⟩ : ∃ gv, av = some ⟨gv, 0, none⟩ := by
        rcases hy.2 with ⟨h1, h2⟩ | ⟨gv, cap, cur, h1, _⟩
        · omega
        · cases h1; exact ⟨_, rfl⟩
      obtain ⟨ga, rfl⟩ : ∃ ga, aa = some ⟨ga, 0, none⟩ := by
        rcases hz.2 with ⟨h1, h2⟩ | ⟨ga, cap, cur, h1, _⟩
        · omega
        · cases h1; exact ⟨_, rfl⟩
      have Fd : Frm (fun _ => False) wr wr.drew := Frm.of (grown_drew _ none) (fun k e _ => by cases e)
      have Frd := Fr.trans Fd (fun _ _ h => h)
      have cy : ∀ j u, (cellsY (⟨p', tu', mi', ya, yn, D'⟩, yc))[j]? = some u → wr.drew.cell? ⟨gv, i * 4 + j, none⟩ = some u := fun j u hu => by
        have hj : j < 4 := (List.getElem?_eq_some_iff.1 hu).1
        have h := hy.cells (g := gv) rfl (i * 4 + j) u ((flY_atC ys i _ hyi j hj).trans hu)
        rw [addr_add, Nat.zero_add] at h
        exact cell_frm h Frd (fun h => h)
      have cz : ∀ j u, (cellsY (⟨p', tu', mi', za, zn, D'⟩, zc))[j]? = some u → wr.drew.cell? ⟨ga, i * 4 + j, none⟩ = some u := fun j u hu => by
        have hj : j < 4 := (List.getElem?_eq_some_iff.1 hu).1
        have h := hz.cells (g := ga) rfl (i * 4 + j) u ((flY_atC zs i _ hzi j hj).trans hu)
        rw [addr_add, Nat.zero_add] at h
        exact cell_frm h Frd (fun h => h)
      have y0 : wr.drew.cell? ⟨gv, i * 4, none⟩ = some (.int .i64 (p' : Nat)) := cy 0 _ rfl
      have y1 : wr.drew.cell? ⟨gv, i * 4 + 1, none⟩ = some (.bool tu') := cy 1 _ rfl
      have y2 : wr.drew.cell? ⟨gv, i * 4 + 2, none⟩ = some (.int .i64 (mi' : Nat)) := cy 2 _ rfl
      have y3 : wr.drew.cell? ⟨gv, i * 4 + 3, none⟩ = some (.slice ya yn yc) := cy 3 _ rfl
      have z0 : wr.drew.cell? ⟨ga, i * 4, none⟩ = some (.int .i64 (p' : Nat)) := cz 0 _ rfl
      have z1 : wr.drew.cell? ⟨ga, i * 4 + 1, none⟩ = some (.bool tu') := cz 1 _ rfl
      have z2 : wr.drew.cell? ⟨ga, i * 4 + 2, none⟩ = some (.int .i64 (mi' : Nat)) := cz 2 _ rfl
      have z3 : wr.drew.cell? ⟨ga, i * 4 + 3, none⟩ = some (.slice za zn zc) := cz 3 _ rfl
      have k4r := cell_frm k4 Frd (fun h => h)
      have hyR := Rd.keepF (p := fun _ => False) hyA.rd Frd
      have hzR := Rd.keepF (p := fun _ => False) hzA.rd Frd
      clear cy cz hyi hzi hyA hzA
      refine wp_seq_k fun K20 hK20 => ?_
      have HK20 : Hid _ := hK20
      clear hK20
      refine wp_seq_k fun K21 hK21 => ?_
      have HK21 : Hid _ := hK21
      clear hK21
      go_wp2
      (try simp only [Exit.inBlock, Exit.then])
      refine HK21.out _ _ ?_
      clear HK21
      go_wp2
      (try simp only [Exit.inBlock, Exit.then])
      refine HK20.out _ _ ?_
      clear HK20
      refine wp_seq_k fun K22 hK22 => ?_
      have HK22 : Hid _ := hK22
      clear hK22
      refine wp_block ?_
      refine wp_seq_k fun K29 hK29 => ?_
      have HK29 : Hid _ := hK29
      clear hK29
      have SS : wr.drew.grownBy wr.drew none := World.grownBy.refl _ _
      refine wp_regionM (fun wz => wr.drew.grownBy wz none) [] #[false, false, false, false, false, false, false, false, false, false, false, false, false, false] rfl (by kernel_rfl) ?_
      generalize wr.drew = wd at *
      refine wpAnyY_takeF 0 (.slice (some ⟨ga, 0, none⟩) n ca) rfl (by kernel_rfl) (fun _ _ _ h => h) rfl (by intro wz; go_simp; try rfl) ?_
      try simp only [List.getElem_toArray, List.getElem_cons_succ, List.getElem_cons_zero, Act.put, List.setIfInBounds_toArray, List.set_cons_zero, List.set_cons_succ]
      refine wpAnyY_takeF 1 (.int .i64 (i : Nat)) rfl (by kernel_rfl) (fun _ _ _ h => h) rfl (by intro wz; go_simp; try rfl) ?_
      try simp only [List.getElem_toArray, List.getElem_cons_succ, List.getElem_cons_zero, Act.put, List.setIfInBounds_toArray, List.set_cons_zero, List.set_cons_succ]
      refine wpAnyY_takeF 2 (.pointer (some ⟨ga, i * 4, none⟩)) rfl (by kernel_rfl) (fun _ _ _ h => h) rfl (by intro wz; go_simp; try rfl) ?_
      try simp only [List.getElem_toArray, List.getElem_cons_succ, List.getElem_cons_zero, Act.put, List.setIfInBounds_toArray, List.set_cons_zero, List.set_cons_succ]
      refine wpAnyY_take [] 3 (.agg #[.int .i64 (p' : Nat), .bool tu', .int .i64 (mi' : Nat), .slice za zn zc]) rfl (by kernel_rfl) (fun _ _ _ h => h) SS rfl (by intro wz hz; have ez0 := cellGC z0 hz; have ez1 := cellGC z1 hz; have ez2 := cellGC z2 hz; have ez3 := cellGC z3 hz; go_simp) ?_
      try simp only [List.getElem_toArray, List.getElem_cons_succ, List.getElem_cons_zero, Act.put, List.setIfInBounds_toArray, List.set_cons_zero, List.set_cons_succ]
      refine wpAnyY_takeF 4 (.slice (some ⟨p4, 0, none⟩) 1 q4) rfl (by kernel_rfl) (fun _ _ _ h => h) rfl (by intro wz; go_simp; try rfl) ?_
      try simp only [List.getElem_toArray, List.getElem_cons_succ, List.getElem_cons_zero, Act.put, List.setIfInBounds_toArray, List.set_cons_zero, List.set_cons_succ]
      refine wpAnyY_takeF 5 (.pointer (some ⟨p4, 0, none⟩)) rfl (by kernel_rfl) (fun _ _ _ h => h) rfl (by intro wz; go_simp; try rfl) ?_
      try simp only [List.getElem_toArray, List.getElem_cons_succ, List.getElem_cons_zero, Act.put, List.setIfInBounds_toArray, List.set_cons_zero, List.set_cons_succ]
      refine wpAnyY_take [] 6 (.slice (some ⟨gv, 0, none⟩) n cv) rfl (by kernel_rfl) (fun _ _ _ h => h) SS rfl (by intro wz hz; have ek4r := cellGC k4r hz; go_simp) ?_
      try simp only [List.getElem_toArray, List.getElem_cons_succ, List.getElem_cons_zero, Act.put, List.setIfInBounds_toArray, List.set_cons_zero, List.set_cons_succ]
      refine wpAnyY_takeF 7 (.int .i64 (i : Nat)) rfl (by kernel_rfl) (fun _ _ _ h => h) rfl (by intro wz; go_simp; try rfl) ?_
      try simp only [List.getElem_toArray, List.getElem_cons_succ, List.getElem_cons_zero, Act.put, List.setIfInBounds_toArray, List.set_cons_zero, List.set_cons_succ]
      refine wpAnyY_takeF 8 (.pointer (some ⟨gv, i * 4, none⟩)) rfl (by kernel_rfl) (fun _ _ _ h => h) rfl (by intro wz; go_simp; try rfl) ?_
      try simp only [List.getElem_toArray, List.getElem_cons_succ, List.getElem_cons_zero, Act.put, List.setIfInBounds_toArray, List.set_cons_zero, List.set_cons_succ]
      refine wpAnyY_take [] 9 (.agg #[.int .i64 (p' : Nat), .bool tu', .int .i64 (mi' : Nat), .slice ya yn yc]) rfl (by kernel_rfl) (fun _ _ _ h => h) SS rfl (by intro wz hz; have ey0 := cellGC y0 hz; have ey1 := cellGC y1 hz; have ey2 := cellGC y2 hz; have ey3 := cellGC y3 hz; go_simp) ?_
      try simp only [List.getElem_toArray, List.getElem_cons_succ, List.getElem_cons_zero, Act.put, List.setIfInBounds_toArray, List.set_cons_zero, List.set_cons_succ]
      refine wpAnyY_twoB 10 11 rfl rfl (by kernel_rfl) (fun KK hKK => ?_) (fun KK hKK => ?_)
      · go_simp
        have bA := BxS.new wd 42 #[.int .i64 0, .bool false, .int .i64 0, .slice none 0 0]
        have gA := World.grownBy_alloc wd (.cells #[.int .i64 0, .bool false, .int .i64 0, .slice none 0 0] 42) none
        have hzA : wd.heap.size + 1 ≤ (wd.alloc (.cells #[.int .i64 0, .bool false, .int .i64 0, .slice none 0 0] 42)).heap.size := by simp
        refine hKK _ _ (fun h _ => grown_trans h gA) ?_
        try simp only [List.getElem_toArray, List.getElem_cons_succ, List.getElem_cons_zero, Act.put, List.setIfInBounds_toArray, List.set_cons_zero, List.set_cons_succ]
        generalize wd.alloc (.cells #[.int .i64 0, .bool false, .int .i64 0, .slice none 0 0] 42) = wA at *
        refine wpAnyY_oneB 11 rfl (by kernel_rfl) (fun KK hKK => ?_)
        go_simp
        have bB := BxS.new wA 42 #[.int .i64 0, .bool false, .int .i64 0, .slice none 0 0]
        have gB := World.grownBy_alloc wA (.cells #[.int .i64 0, .bool false, .int .i64 0, .slice none 0 0] 42) none
        refine hKK _ _ (fun h _ => grown_trans h gB) ?_
        try simp only [List.getElem_toArray, List.getElem_cons_succ, List.getElem_cons_zero, Act.put, List.setIfInBounds_toArray, List.set_cons_zero, List.set_cons_succ]
        replace bA := bA.keep gB (by simp)
        have gAB := grown_trans gA gB
        generalize wA.alloc (.cells #[.int .i64 0, .bool false, .int .i64 0, .slice none 0 0] 42) = wB at *
        refine wpAnyY_oneB 12 rfl (by kernel_rfl) (fun KK hKK => ?_)
        refine step_of_listT rfl ?_
        refine wpList_stX _ rfl _ _ _ rfl wd.heap.size _ #[.int .i64 (p' : Nat), .bool tu', .int .i64 (mi' : Nat), .slice za zn zc] rfl rfl bA Try.info_fdC rfl (by simp [Value.oneCell']) ?_
        intro wC bA' gwC
        show KK _ wC
        refine hKK _ _ (fun h _ => grown_far h gwC (fun x e => by have e2 := Option.some.inj e; omega)) ?_
        try simp only [List.getElem_toArray, List.getElem_cons_succ, List.getElem_cons_zero, Act.put, List.setIfInBounds_toArray, List.set_cons_zero, List.set_cons_succ]
        replace bB := bB.keep gwC (by simp; omega)
        refine wpAnyY_oneB 13 rfl (by kernel_rfl) (fun KK hKK => ?_)
        refine step_of_listT rfl ?_
        refine wpList_stX _ rfl _ _ _ rfl wA.heap.size _ #[.int .i64 (p' : Nat), .bool tu', .int .i64 (mi' : Nat), .slice ya yn yc] rfl rfl bB Try.info_fdC rfl (by simp [Value.oneCell']) ?_
        intro wD bB' gwD
        show KK _ wD
        refine hKK _ _ (fun h _ => grown_far h gwD (fun x e => by have e2 := Option.some.inj e; omega)) ?_
        try simp only [List.getElem_toArray, List.getElem_cons_succ, List.getElem_cons_zero, Act.put, List.setIfInBounds_toArray, List.set_cons_zero, List.set_cons_succ]
        replace bA' := bA'.keep gwD (by simp; omega)
        have gAll : wd.grownBy wD none := grown_far (grown_far gAB gwC (fun x e => by have e2 := Option.some.inj e; omega)) gwD (fun x e => by have e2 := Option.some.inj e; omega)
        have FD := Frd.trans (Frm.of (p := fun _ => False) gAll (fun k e _ => by cases e)) (fun _ _ h => h)
        have hyD := hyR.keep gAll
        have hzD := hzR.keep gAll
        have s1 := str_any wD ya yn yc D' hyD
        have s2 := str_any wD za zn zc D' hzD
        have e0 : wD.cell? ⟨wd.heap.size, 0, none⟩ = some (.int .i64 (p' : Nat)) := bA'.cell 0 (by show 0 < 4; decide)
        have e1 : wD.cell? ⟨wd.heap.size, 1, none⟩ = some (.bool tu') := bA'.cell 1 (by show 1 < 4; decide)
        have e2 : wD.cell? ⟨wd.heap.size, 2, none⟩ = some (.int .i64 (mi' : Nat)) := bA'.cell 2 (by show 2 < 4; decide)
        have e3 : wD.cell? ⟨wd.heap.size, 3, none⟩ = some (.slice za zn zc) := bA'.cell 3 (by show 3 < 4; decide)
        have f0 : wD.cell? ⟨wA.heap.size, 0, none⟩ = some (.int .i64 (p' : Nat)) := bB'.cell 0 (by show 0 < 4; decide)
        have f1 : wD.cell? ⟨wA.heap.size, 1, none⟩ = some (.bool tu') := bB'.cell 1 (by show 1 < 4; decide)
        have f2 : wD.cell? ⟨wA.heap.size, 2, none⟩ = some (.int .i64 (mi' : Nat)) := bB'.cell 2 (by show 2 < 4; decide)
        have f3 : wD.cell? ⟨wA.heap.size, 3, none⟩ = some (.slice ya yn yc) := bB'.cell 3 (by show 3 < 4; decide)
        clear bA' bB' bA bB gwC gwD gAll gAB gA gB hyR hzR y0 y1 y2 y3 z0 z1 z2 z3 k4r SS
        have HFD : Hid _ := FD
        clear FD Frd Fd hyD hzD
        refine wpAnyY_doneB (by kernel_rfl) ?_ _
        (try simp only [Exit.inBlock, Exit.then])
        refine HK29.out _ _ ?_
        clear HK29
        go_wp2
        (try simp only [Exit.inBlock, Exit.then])
        refine HK22.out _ _ ?_
        clear HK22
        go_wp2
        go_roundw
        case rel => exact ⟨i + 1, by go_num, by omega, HFD.out⟩
        case measure => simp [intOf]; omega
      · go_simp
        have bA := BxS.new wd 42 #[.int .i64 0, .bool false, .int .i64 0, .slice none 0 0]
        have gA := World.grownBy_alloc wd (.cells #[.int .i64 0, .bool false, .int .i64 0, .slice none 0 0] 42) none
        have hzA : wd.heap.size + 1 ≤ (wd.alloc (.cells #[.int .i64 0, .bool false, .int .i64 0, .slice none 0 0] 42)).heap.size := by simp
        refine hKK _ _ (fun h _ => grown_trans h gA) ?_
        try simp only [List.getElem_toArray, List.getElem_cons_succ, List.getElem_cons_zero, Act.put, List.setIfInBounds_toArray, List.set_cons_zero, List.set_cons_succ]
        generalize wd.alloc (.cells #[.int .i64 0, .bool false, .int .i64 0, .slice none 0 0] 42) = wA at *
        refine wpAnyY_oneB 10 rfl (by kernel_rfl) (fun KK hKK => ?_)
        go_simp
        have bB := BxS.new wA 42 #[.int .i64 0, .bool false, .int .i64 0, .slice none 0 0]
        have gB := World.grownBy_alloc wA (.cells #[.int .i64 0, .bool false, .int .i64 0, .slice none 0 0] 42) none
        refine hKK _ _ (fun h _ => grown_trans h gB) ?_
        try simp only [List.getElem_toArray, List.getElem_cons_succ, List.getElem_cons_zero, Act.put, List.setIfInBounds_toArray, List.set_cons_zero, List.set_cons_succ]
        replace bA := bA.keep gB (by simp)
        have gAB := grown_trans gA gB
        generalize wA.alloc (.cells #[.int .i64 0, .bool false, .int .i64 0, .slice none 0 0] 42) = wB at *
        refine wpAnyY_oneB 12 rfl (by kernel_rfl) (fun KK hKK => ?_)
        refine step_of_listT rfl ?_
        refine wpList_stX _ rfl _ _ _ rfl wA.heap.size _ #[.int .i64 (p' : Nat), .bool tu', .int .i64 (mi' : Nat), .slice za zn zc] rfl rfl bB Try.info_fdC rfl (by simp [Value.oneCell']) ?_
        intro wC bB' gwC
        show KK _ wC
        refine hKK _ _ (fun h _ => grown_far h gwC (fun x e => by have e2 := Option.some.inj e; omega)) ?_
        try simp only [List.getElem_toArray, List.getElem_cons_succ, List.getElem_cons_zero, Act.put, List.setIfInBounds_toArray, List.set_cons_zero, List.set_cons_succ]
        replace bA := bA.keep gwC (by simp; omega)
        refine wpAnyY_oneB 13 rfl (by kernel_rfl) (fun KK hKK => ?_)
        refine step_of_listT rfl ?_
        refine wpList_stX _ rfl _ _ _ rfl wd.heap.size _ #[.int .i64 (p' : Nat), .bool tu', .int .i64 (mi' : Nat), .slice ya yn yc] rfl rfl bA Try.info_fdC rfl (by simp [Value.oneCell']) ?_
        intro wD bA' gwD
        show KK _ wD
        refine hKK _ _ (fun h _ => grown_far h gwD (fun x e => by have e2 := Option.some.inj e; omega)) ?_
        try simp only [List.getElem_toArray, List.getElem_cons_succ, List.getElem_cons_zero, Act.put, List.setIfInBounds_toArray, List.set_cons_zero, List.set_cons_succ]
        replace bB' := bB'.keep gwD (by simp; omega)
        have gAll : wd.grownBy wD none := grown_far (grown_far gAB gwC (fun x e => by have e2 := Option.some.inj e; omega)) gwD (fun x e => by have e2 := Option.some.inj e; omega)
        have FD := Frd.trans (Frm.of (p := fun _ => False) gAll (fun k e _ => by cases e)) (fun _ _ h => h)
        have hyD := hyR.keep gAll
        have hzD := hzR.keep gAll
        have s1 := str_any wD ya yn yc D' hyD
        have s2 := str_any wD za zn zc D' hzD
        have e0 : wD.cell? ⟨wA.heap.size, 0, none⟩ = some (.int .i64 (p' : Nat)) := bB'.cell 0 (by show 0 < 4; decide)
        have e1 : wD.cell? ⟨wA.heap.size, 1, none⟩ = some (.bool tu') := bB'.cell 1 (by show 1 < 4; decide)
        have e2 : wD.cell? ⟨wA.heap.size, 2, none⟩ = some (.int .i64 (mi' : Nat)) := bB'.cell 2 (by show 2 < 4; decide)
        have e3 : wD.cell? ⟨wA.heap.size, 3, none⟩ = some (.slice za zn zc) := bB'.cell 3 (by show 3 < 4; decide)
        have f0 : wD.cell? ⟨wd.heap.size, 0, none⟩ = some (.int .i64 (p' : Nat)) := bA'.cell 0 (by show 0 < 4; decide)
        have f1 : wD.cell? ⟨wd.heap.size, 1, none⟩ = some (.bool tu') := bA'.cell 1 (by show 1 < 4; decide)
        have f2 : wD.cell? ⟨wd.heap.size, 2, none⟩ = some (.int .i64 (mi' : Nat)) := bA'.cell 2 (by show 2 < 4; decide)
        have f3 : wD.cell? ⟨wd.heap.size, 3, none⟩ = some (.slice ya yn yc) := bA'.cell 3 (by show 3 < 4; decide)
        clear bB' bA' bB bA gwC gwD gAll gAB gA gB hyR hzR y0 y1 y2 y3 z0 z1 z2 z3 k4r SS
        have HFD : Hid _ := FD
        clear FD Frd Fd hyD hzD
        refine wpAnyY_doneB (by kernel_rfl) ?_ _
        (try simp only [Exit.inBlock, Exit.then])
        refine HK29.out _ _ ?_
        clear HK29
        go_wp2
        (try simp only [Exit.inBlock, Exit.then])
        refine HK22.out _ _ ?_
        clear HK22
        go_wp2
        go_roundw
        case rel => exact ⟨i + 1, by go_num, by omega, HFD.out⟩
        case measure => simp [intOf]; omega
    · obtain rfl : i = n := by omega
      have hge : ¬ ((i : Int) < (i : Int)) := by omega
      have HF : Hid _ := F0.trans Fr (fun _ _ h => h)
      go_wp2
      go_ret
      exact ⟨rfl, HF.out.gr⟩
end Go.Proofs.Ythdjpbfknbafgaa
