import Derived.Test.YtlfacjpehhcdiaaOn13
namespace Go.Proofs.Ytlfacjpehhcdiaa
open Go.RowKit
set_option maxRecDepth 100000
set_option linter.unusedVariables false
set_option linter.unusedSimpArgs false

section
/-- boxes of a post lie as they lay -/
def KpP (w w' : World) : Prop := ∀ g cs, BxS w g 36 cs → BxS w' g 36 cs
theorem KpP.none {w w' : World} (h : w.grownBy w' none) : KpP w w' := fun g cs b => b.keep h (by simp)
theorem KpP.trans {w w1 w2 : World} (h : KpP w w1) (k : KpP w1 w2) : KpP w w2 := fun g cs b => k g cs (h g cs b)
theorem KpP.box {w w' : World} {g : Nat} {t : TypeId} {A : Array Value} (b : BxS w g t A) (ht : 36 ≠ t) (u : w.grownBy w' (some g)) : KpP w w' := fun g2 cs b2 => b2.keep u (fun e => BxS.apart b2 b ht (Option.some.inj e))
theorem cell_lt {w : World} {b o : Nat} {v : Value} (h : w.cell? ⟨b, o, none⟩ = some v) : b < w.heap.size := by
  unfold World.cell? at h
  by_cases hb : b < w.heap.size
  · exact hb
  · rw [Array.getElem?_eq_none (by show w.heap.size ≤ b; omega)] at h
    cases h
theorem cell_gr {w w' : World} {b o : Nat} {v : Value} (h : w.cell? ⟨b, o, none⟩ = some v) (hg : w.grownBy w' none) : w'.cell? ⟨b, o, none⟩ = some v := cell_grown h hg (cell_lt h) (by simp)
/-- a byte lies still where a box is written -/
theorem cell_box {w w' : World} {b o g : Nat} {t : TypeId} {A : Array Value} {k : Int} (h : w.cell? ⟨b, o, none⟩ = some (.int .u8 k)) (u : w.grownBy w' (some g)) (hb : BxS w g t A) (hne : ∀ i : Nat, A[i]? ≠ some (.int .u8 k)) : w'.cell? ⟨b, o, none⟩ = some (.int .u8 k) := by
  refine cell_grown h u (cell_lt h) (fun e => ?_)
  have e := Option.some.inj e
  subst e
  rw [cell_of_row _ _ _ _ _ _ hb] at h
  exact hne o h
theorem lka_nob (d : Hd) (H : Hx) (x : Nat × Bool × Bool) (wa oa da : Option Addr) (wn wc on oc dn dc a : Nat) (z : Int) (he : Bool) (k : Int) (i : Nat) : (lkA d H x (.slice wa wn wc) (.slice oa on oc) (.slice da dn dc) a z he)[i]? ≠ some (.int .u8 k) := by
  intro h
  have hi : i < 25 := (Array.getElem?_eq_some_iff.1 h).1
  have : i = 0 ∨ i = 1 ∨ i = 2 ∨ i = 3 ∨ i = 4 ∨ i = 5 ∨ i = 6 ∨ i = 7 ∨ i = 8 ∨ i = 9 ∨ i = 10 ∨ i = 11 ∨ i = 12 ∨ i = 13 ∨ i = 14 ∨ i = 15 ∨ i = 16 ∨ i = 17 ∨ i = 18 ∨ i = 19 ∨ i = 20 ∨ i = 21 ∨ i = 22 ∨ i = 23 ∨ i = 24 := by omega
  rcases this with rfl | rfl | rfl | rfl | rfl | rfl | rfl | rfl | rfl | rfl | rfl | rfl | rfl | rfl | rfl | rfl | rfl | rfl | rfl | rfl | rfl | rfl | rfl | rfl | rfl <;> simp [lkA] at h
set_option maxHeartbeats 16000000 in
theorem ar_t7 {u1 u2 u3 u4 u5 u6 u8 u11 u12 u13 u14 u15 u16 u17 u18 u19 u20 u21 u22 u23 u24 u25 u26 u27 u28 u29 u30 u31 u32 u33 u34 u35 u36 u37 u38 u39 u40 u41 u42 u43 u44 u45 u46 u47 u48 u49 u50 u51 u52 u53 u54 u55 u56 u57 u58 u59 u60 u61 u62 u63 u64 u65 u66 u67 : Value} (P : Ending → World → Prop) (wB w : World) (gl : Nat) (l : Lk) (X : Lx) (hM : LM wB w gl l X) (he : l.he = false) (k : Nat) (hk : k < 100) (hx1 : l.x.1 ≤ 100) (room : Bool) (g7 g9 : Nat) (a3 : Option Addr) (c3 : Nat) (hA3 : Rd w a3 1 c3 [k]) (b7 : BxS w g7 62 (orA 3 false false (k : Int) a3 1 c3)) (b9 : BxS w g9 28 (gaC (ga room l.x k)).toArray) (inn : Bool) (hin : inn = decide (k = l.x.1 ∧ room = true))
    (hP : ∀ w' X', KpP w w' → LM wB w' gl { l with x := ga room l.x k } X' → P (.returned (.bool true)) w') :
    Code.wp Try.prog (tailR 7 (Try.f11.body.getD .skip)) (bodyPost Try.prog Try.f11 P) (Act.mk (List.toArray ((.pointer (some ⟨gl, 0, none⟩)) :: u1 :: u2 :: u3 :: u4 :: u5 :: u6 :: (.pointer (some ⟨g7, 0, none⟩)) :: u8 :: (.pointer (some ⟨g9, 0, none⟩)) :: (.bool inn) :: u11 :: u12 :: u13 :: u14 :: u15 :: u16 :: u17 :: u18 :: u19 :: u20 :: u21 :: u22 :: u23 :: u24 :: u25 :: u26 :: u27 :: u28 :: u29 :: u30 :: u31 :: u32 :: u33 :: u34 :: u35 :: u36 :: u37 :: u38 :: u39 :: u40 :: u41 :: u42 :: u43 :: u44 :: u45 :: u46 :: u47 :: u48 :: u49 :: u50 :: u51 :: u52 :: u53 :: u54 :: u55 :: u56 :: u57 :: u58 :: u59 :: u60 :: u61 :: u62 :: u63 :: u64 :: u65 :: u66 :: u67 :: [])) []) w := by
  conv => enter [2]; whnf
  obtain ⟨b3, o3, rfl, hb3, hc3⟩ := hA3.at' (by decide)
  have hc3 : w.cell? ⟨b3, o3, none⟩ = some (.int .u8 (k : Int)) := hc3 0 (by decide)
  obtain ⟨x2, hx2⟩ : ∃ x2, ga room l.x k = x2 := ⟨_, rfl⟩
  rw [hx2] at b9 hP
  have HP : Hid _ := hP
  have HX2 : Hid _ := hx2
  have HIN : Hid _ := hin
  have bM := hM.bx
  clear hP hx2 hin hA3
  refine wp_seq_k fun K0 hK0 => ?_
  have HK0 : Hid _ := hK0
  clear hK0
  have s1 : True := trivial
  go_wp2_with (first
    | (have _t := s1; clear s1; refine wpList_ldX _ rfl _ (.tmp 9) rfl g9 _ rfl b9 Try.underlying28 Try.info_gt ?_; have s2 : True := trivial)
    | (have _t := s2; clear s2; refine wpList_stPL rfl _ (.tmp 53) (.tmp 51) rfl gl 12 31 _ (lkA l.d X.h x2 (.slice X.wa X.wn X.wc) (.slice X.oa X.on X.oc) (.slice X.da X.dn X.dc) l.a X.z l.he) (gaC x2).toArray rfl rfl bM Try.info_gt (by show 12 + 7 ≤ 25; decide) (by simp [gaC, Value.oneCell']) (setA_ga _ _ _ _ _ _ _ _ _ _) ?_; intro w4 b4 u4))
  refine HK0.out _ _ ?_
  clear HK0
  cases inn with
  | false =>
    have hn := of_decide_eq_false HIN.out.symm
    have hxx : x2.1 = l.x.1 := by
      rw [← HX2.out]
      unfold ga
      by_cases c1 : k = l.x.1
      · rw [if_pos c1, if_neg (fun e => hn ⟨c1, e⟩)]
      · rw [if_neg c1]
        split <;> rfl
    have hF := (hM.c.gate x2 hxx he).st b4 u4
    have kp4 := KpP.box bM (by decide) u4
    clear hn hxx
    go_wp2
    first | go_ret | skip
    exact HP.out _ _ kp4 hF
  | true =>
    have hy := of_decide_eq_true HIN.out.symm
    have hdl := hM.c.dl
    have HDL : Hid _ := hdl
    have hC4 := hM.c.box b4 u4
    have kp4 := KpP.box bM (by decide) u4
    have b74 := b7.keep u4 (fun e => BxS.apart b7 bM (by decide) (Option.some.inj e))
    have hc4 : w4.cell? ⟨b3, o3, none⟩ = some (.int .u8 (k : Int)) := cell_box hc3 u4 bM (fun i => lka_nob _ _ _ _ _ _ _ _ _ _ _ _ _ _ _ _ i)
    have HX3 : Hid (x2 = (l.x.1 + 1, false, false)) := by
      show x2 = _
      rw [← HX2.out]
      unfold ga
      rw [if_pos hy.1, if_pos hy.2]
    have HKX : Hid (k = X.dn) := by show k = _; rw [hdl]; exact hy.1
    have hdn100 : X.dn ≤ 100 := by omega
    clear hy hc3 u4 HIN HX2 hdl
    refine wp_seq_k fun K1 hK1 => ?_
    have HK1 : Hid _ := hK1
    clear hK1
    go_wp2
    have Gd := grown_drew w4 none
    have SS : BxS w4.drew gl 31 (lkA l.d X.h x2 (.slice X.wa X.wn X.wc) (.slice X.oa X.on X.oc) (.slice X.da X.dn X.dc) l.a X.z l.he) ∧ BxS w4.drew g7 62 (orA 3 false false (k : Int) (some ⟨b3, o3, none⟩) 1 c3) ∧ w4.drew.cell? ⟨b3, o3, none⟩ = some (.int .u8 (k : Int)) := ⟨b4.keep Gd (by simp), (b74.keep Gd (by simp)), cell_gr hc4 Gd⟩
    refine wp_regionM (fun wz => BxS wz gl 31 (lkA l.d X.h x2 (.slice X.wa X.wn X.wc) (.slice X.oa X.on X.oc) (.slice X.da X.dn X.dc) l.a X.z l.he) ∧ BxS wz g7 62 (orA 3 false false (k : Int) (some ⟨b3, o3, none⟩) 1 c3) ∧ wz.cell? ⟨b3, o3, none⟩ = some (.int .u8 (k : Int))) [10, 13] #[false, false, false, false, false, false, false, false, false, false, false, false, false, false] rfl (by kernel_rfl) ?_
    have hCd := hC4.keep Gd
    generalize w4.drew = wd at *
    refine wpAnyY_takeF 0 (.pointer (some ⟨gl, 0, none⟩)) rfl (by kernel_rfl) (fun _ _ _ h => h) rfl (by intro wz; go_simp; try rfl) ?_
    try simp only [List.getElem_toArray, List.getElem_cons_succ, List.getElem_cons_zero, Act.put, List.setIfInBounds_toArray, List.set_cons_zero, List.set_cons_succ]
    refine wpAnyY_takeF 1 (.pointer (some ⟨gl, 0, none⟩)) rfl (by kernel_rfl) (fun _ _ _ h => h) rfl (by intro wz; go_simp; try rfl) ?_
    try simp only [List.getElem_toArray, List.getElem_cons_succ, List.getElem_cons_zero, Act.put, List.setIfInBounds_toArray, List.set_cons_zero, List.set_cons_succ]
    refine wpAnyY_takeF 2 (.pointer (some ⟨gl, 0, none⟩)) rfl (by kernel_rfl) (fun _ _ _ h => h) rfl (by intro wz; go_simp; try rfl) ?_
    try simp only [List.getElem_toArray, List.getElem_cons_succ, List.getElem_cons_zero, Act.put, List.setIfInBounds_toArray, List.set_cons_zero, List.set_cons_succ]
    refine wpAnyY_takeF 3 (.pointer (some ⟨gl, 21, none⟩)) rfl (by kernel_rfl) (fun _ _ _ h => h) rfl (by intro wz; go_simp; try rfl) ?_
    try simp only [List.getElem_toArray, List.getElem_cons_succ, List.getElem_cons_zero, Act.put, List.setIfInBounds_toArray, List.set_cons_zero, List.set_cons_succ]
    refine wpAnyY_take [10, 13] 4 (.slice X.da X.dn X.dc) rfl (by kernel_rfl) (fun _ _ _ h => h) SS rfl (by rintro wz ⟨z1, z2, z3⟩; have z : wz.cell? ⟨gl, 21, none⟩ = some (.slice X.da X.dn X.dc) := z1.cell 21 (by show 21 < 25; decide); go_simp) ?_
    try simp only [List.getElem_toArray, List.getElem_cons_succ, List.getElem_cons_zero, Act.put, List.setIfInBounds_toArray, List.set_cons_zero, List.set_cons_succ]
    refine wpAnyY_takeF 5 (.pointer (some ⟨g7, 4, none⟩)) rfl (by kernel_rfl) (fun _ _ _ h => h) rfl (by intro wz; go_simp; try rfl) ?_
    try simp only [List.getElem_toArray, List.getElem_cons_succ, List.getElem_cons_zero, Act.put, List.setIfInBounds_toArray, List.set_cons_zero, List.set_cons_succ]
    refine wpAnyY_take [7, 8, 9, 10, 13] 6 (.slice (some ⟨b3, o3, none⟩) 1 c3) rfl (by kernel_rfl) (fun _ _ _ h => h) SS rfl (by rintro wz ⟨z1, z2, z3⟩; have z : wz.cell? ⟨g7, 4, none⟩ = some (.slice (some ⟨b3, o3, none⟩) 1 c3) := z2.cell 4 (by show 4 < 5; decide); go_simp) ?_
    try simp only [List.getElem_toArray, List.getElem_cons_succ, List.getElem_cons_zero, Act.put, List.setIfInBounds_toArray, List.set_cons_zero, List.set_cons_succ]
    refine wpAnyY_takeF 7 (.pointer (some ⟨b3, o3, none⟩)) rfl (by kernel_rfl) (fun _ _ _ h => h) rfl (by intro wz; go_simp; try rfl) ?_
    try simp only [List.getElem_toArray, List.getElem_cons_succ, List.getElem_cons_zero, Act.put, List.setIfInBounds_toArray, List.set_cons_zero, List.set_cons_succ]
    refine wpAnyY_take [9, 10, 13] 8 (.int .u8 (k : Int)) rfl (by kernel_rfl) (fun _ _ _ h => h) SS rfl (by rintro wz ⟨z1, z2, z3⟩; go_simp) ?_
    try simp only [List.getElem_toArray, List.getElem_cons_succ, List.getElem_cons_zero, Act.put, List.setIfInBounds_toArray, List.set_cons_zero, List.set_cons_succ]
    refine wpAnyY_oneB 9 rfl (by kernel_rfl) (fun KK hKK => ?_)
    go_simp
    have Ge := World.grownBy_alloc wd (.cells #[.int .u8 (k : Int)] 5) none
    have be := BxS.new wd 5 #[.int .u8 (k : Int)]
    have hCe := hCd.keep Ge
    have b4e := SS.1.keep Ge (by simp)
    generalize hwe : wd.alloc (.cells #[.int .u8 (k : Int)] 5) = we at *
    refine hKK _ _ (fun h _ => ⟨b4e, h.2.1.keep Ge (by simp), cell_gr h.2.2 Ge⟩) ?_
    try simp only [List.getElem_toArray, List.getElem_cons_succ, List.getElem_cons_zero, Act.put, List.setIfInBounds_toArray, List.set_cons_zero, List.set_cons_succ]
    refine wpAnyY_oneB 10 rfl (by kernel_rfl) (fun KK hKK => ?_)
    refine step_of_listL rfl ?_
    refine wpList_apB we rfl _ _ rfl (.slice X.da X.dn X.dc) X.dn (bys (List.range l.x.1)) rfl hCe.dn.own ⟨wd.heap.size, 0, none⟩ 1 1 [.int .u8 (k : Int)] rfl rfl (fun j u hu => by rw [addr_add, cell_of_row _ _ _ _ _ _ be]; simpa using hu) (fun u hu => by rw [List.mem_singleton.1 hu]; rfl) (by decide) (by omega) ?_
    intro gd cd wf hor uf hof
    have bf := b4e.keep uf (fun e => hCe.dn.box b4e (by decide) e.symm)
    show KK _ wf
    refine hKK _ _ (fun _ h => absurd (by decide) h) ?_
    try simp only [List.getElem_toArray, List.getElem_cons_succ, List.getElem_cons_zero, Act.put, List.setIfInBounds_toArray, List.set_cons_zero, List.set_cons_succ]
    refine wpAnyY_oneB 11 rfl (by kernel_rfl) (fun KK hKK => ?_)
    go_simp
    refine hKK _ _ (fun h _ => h) ?_
    try simp only [List.getElem_toArray, List.getElem_cons_succ, List.getElem_cons_zero, Act.put, List.setIfInBounds_toArray, List.set_cons_zero, List.set_cons_succ]
    refine wpAnyY_oneB 12 rfl (by kernel_rfl) (fun KK hKK => ?_)
    go_simp
    refine hKK _ _ (fun h _ => h) ?_
    try simp only [List.getElem_toArray, List.getElem_cons_succ, List.getElem_cons_zero, Act.put, List.setIfInBounds_toArray, List.set_cons_zero, List.set_cons_succ]
    refine wpAnyY_oneB 13 rfl (by kernel_rfl) (fun KK hKK => ?_)
    refine step_of_listL rfl ?_
    refine wpList_stC _ rfl _ _ _ rfl gl 21 31 _ (lkA l.d X.h x2 (.slice X.wa X.wn X.wc) (.slice X.oa X.on X.oc) (.slice (some ⟨gd, 0, none⟩) (X.dn + 1) cd) l.a X.z l.he) (.slice (some ⟨gd, 0, none⟩) (X.dn + 1) cd) rfl rfl bf (stc_sl _ _ _ _ _) (by show 21 < 25; decide) rfl ?_
    intro wg bg ug
    show KK _ wg
    refine hKK _ _ (fun _ h => absurd (by decide) h) ?_
    try simp only [List.getElem_toArray, List.getElem_cons_succ, List.getElem_cons_zero, Act.put, List.setIfInBounds_toArray, List.set_cons_zero, List.set_cons_succ]
    refine wpAnyY_doneB (by kernel_rfl) ?_ _
    refine HK1.out _ _ ?_
    clear HK1
    have hAd : Ans wf wB.heap.size (some ⟨gd, 0, none⟩) (X.dn + 1) cd (List.range x2.1) := by
      rw [HX3.out]
      have h1 := hCe.dn
      have hdl := HDL.out
      rw [← hdl] at h1 hof
      have := ans_more (k := k) h1 HKX.out hdn100 hCe.gr.size hor hof
      rw [hdl] at this ⊢
      exact this
    have hG := (hCe.done uf x2 hAd (fun y e => by have e : gd = y := Option.some.inj e; subst e; exact hor) he).st bg ug
    go_wp2
    first | go_ret | skip
    exact HP.out _ _ (kp4.trans ((KpP.none Gd).trans ((KpP.none Ge).trans (KpP.trans (fun g cs b => b.keep uf (fun e => hCe.dn.box b (by decide) e.symm)) (KpP.box bf (by decide) ug))))) hG
set_option maxHeartbeats 16000000 in
theorem ar_t5 {u1 u2 u3 u4 u5 u6 u8 u12 u13 u14 u15 u16 u17 u18 u19 u20 u21 u22 u23 u24 u25 u26 u27 u28 u29 u30 u31 u32 u33 u34 u35 u36 u37 u38 u39 u40 u41 u42 u43 u44 u45 u46 u47 u48 u49 u50 u51 u52 u53 u54 u55 u56 u57 u58 u59 u60 u61 u62 u63 u64 u65 u66 u67 : Value} (P : Ending → World → Prop) (wB w : World) (gl : Nat) (l : Lk) (X : Lx) (hM : LM wB w gl l X) (he : l.he = false) (k : Nat) (hk : k < 100) (hx1 : l.x.1 ≤ 100) (room : Bool) (g7 g9 : Nat) (a3 : Option Addr) (c3 : Nat) (hA3 : Rd w a3 1 c3 [k]) (b7 : BxS w g7 62 (orA 3 false false (k : Int) a3 1 c3)) (b9 : BxS w g9 28 (gaC (ga room l.x k)).toArray) (inn : Bool) (hin : inn = decide (k = l.x.1 ∧ room = true)) (er : Int) (her : er = 0 ∨ er = 12 ∨ er = 7 ∨ er = 13)
    (hP : ∀ w' X', KpP w w' → LM wB w' gl { l with x := ga room l.x k } X' → P (.returned (.bool true)) w') :
    Code.wp Try.prog (tailR 5 (Try.f11.body.getD .skip)) (bodyPost Try.prog Try.f11 P) (Act.mk (List.toArray ((.pointer (some ⟨gl, 0, none⟩)) :: u1 :: u2 :: u3 :: u4 :: u5 :: u6 :: (.pointer (some ⟨g7, 0, none⟩)) :: u8 :: (.pointer (some ⟨g9, 0, none⟩)) :: (.bool inn) :: (.int .i64 er) :: u12 :: u13 :: u14 :: u15 :: u16 :: u17 :: u18 :: u19 :: u20 :: u21 :: u22 :: u23 :: u24 :: u25 :: u26 :: u27 :: u28 :: u29 :: u30 :: u31 :: u32 :: u33 :: u34 :: u35 :: u36 :: u37 :: u38 :: u39 :: u40 :: u41 :: u42 :: u43 :: u44 :: u45 :: u46 :: u47 :: u48 :: u49 :: u50 :: u51 :: u52 :: u53 :: u54 :: u55 :: u56 :: u57 :: u58 :: u59 :: u60 :: u61 :: u62 :: u63 :: u64 :: u65 :: u66 :: u67 :: [])) []) w := by
  conv => enter [2]; whnf
  have HP : Hid _ := hP
  clear hP
  rcases her with rfl | rfl | rfl | rfl
  ·
    refine wp_seq_k fun K0 hK0 => ?_
    have HK0 : Hid _ := hK0
    clear hK0
    go_wp2
    refine HK0.out _ _ ?_
    clear HK0
    exact ar_t7 P wB w gl l X hM he k hk hx1 room g7 g9 a3 c3 hA3 b7 b9 inn hin HP.out
  ·
    refine wp_seq_k fun K0 hK0 => ?_
    have HK0 : Hid _ := hK0
    clear hK0
    go_wp2
    refine HK0.out _ _ ?_
    clear HK0
    exact ar_t7 P wB w gl l X hM he k hk hx1 room g7 g9 a3 c3 hA3 b7 b9 inn hin HP.out
  ·
    refine wp_seq_k fun K0 hK0 => ?_
    have HK0 : Hid _ := hK0
    clear hK0
    go_wp2
    refine HK0.out _ _ ?_
    clear HK0
    exact ar_t7 P wB w gl l X hM he k hk hx1 room g7 g9 a3 c3 hA3 b7 b9 inn hin HP.out
  ·
    refine wp_seq_k fun K0 hK0 => ?_
    have HK0 : Hid _ := hK0
    clear hK0
    go_wp2
    refine HK0.out _ _ ?_
    clear HK0
    exact ar_t7 P wB w gl l X hM he k hk hx1 room g7 g9 a3 c3 hA3 b7 b9 inn hin HP.out
set_option maxHeartbeats 16000000 in
/-- a frame comes to the gate -/
theorem arrives_any (wB w : World) (gl : Nat) (l : Lk) (X : Lx) (hM : LM wB w gl l X) (hx1 : l.x.1 ≤ 100) (k : Nat) (hk : k < 100) (he : l.he = false) (a : Option Addr) (n c : Nat) (hR : Rd w a n c (frm k)) (room : Bool) :
    Calls Try.prog 11 #[.pointer (some ⟨gl, 0, none⟩), .slice a n c, .bool room] w fun e w' => e = .returned (.bool true) ∧ KpP w w' ∧ ∃ X', LM wB w' gl { l with x := ga room l.x k } X' := by
  obtain ⟨d1, d2, _⟩ := frm_de k (by omega)
  have HDe : Calls Try.prog 22 #[.slice a n c] w fun e w' => ∃ a' c', e = .returned (.tuple #[.agg (orA 3 false false (k : Int) a' 1 c'), .int .i64 0]) ∧ Ans w' w.heap.size a' 1 c' [k] ∧ w.grownBy w' none := (kdec_any a n c (frm k) w hR).mono (fun e w' h => by
    obtain ⟨a', n', c', e1, e2, e3⟩ := h
    rw [d2] at e2
    have hl := e2.len
    subst hl
    rw [frm_a k (by omega), d1] at e1
    exact ⟨a', c', e1, e2, e3⟩)
  obtain ⟨x2, hx2⟩ : ∃ x2, ga room l.x k = x2 := ⟨_, rfl⟩
  obtain ⟨inn, hin⟩ : ∃ inn, inn = decide (k = l.x.1 ∧ room = true) := ⟨_, rfl⟩
  obtain ⟨q1, q2, q3⟩ := acc_ga l.x k room hx1 (by omega)
  obtain ⟨er, her, q4⟩ : ∃ er : Int, (er = 0 ∨ er = 12 ∨ er = 7 ∨ er = 13) ∧ ((((gT l.x).acc 3 false false (k : Int) [k] room).2.2 : Nat) : Int) = er := ⟨_, by omega, rfl⟩
  have HAc : ∀ (wz : World) {a3 : Option Addr} {c3 : Nat}, Rd wz a3 1 c3 [k] → Calls Try.prog 23 #[.agg (gaC l.x).toArray, .agg (orA 3 false false (k : Int) a3 1 c3), .bool room] wz fun e w' => e = .returned (.tuple #[.agg (gaC x2).toArray, .bool inn, .int .i64 er]) ∧ wz.grownBy w' none := fun wz a3 c3 h => (accept_any (gT l.x) 3 false false (k : Int) a3 1 c3 [k] room wz h).mono (fun e w' h => by
    rw [q1, q2, q4, hx2, ← hin] at h
    exact h)
  have HX2 : Hid _ := hx2
  have HIN : Hid _ := hin
  have HER : Hid _ := her
  clear q1 q2 q3 q4 hx2 hin her d1 d2
  go_enter Try.func11, Try.ntmps11
  refine wp_seq_k fun K0 hK0 => ?_
  have HK0 : Hid _ := hK0
  clear hK0
  go_wp2
  refine HK0.out _ _ ?_
  clear HK0
  have s1 : True := trivial
  refine wp_seq_k fun K1 hK1 => ?_
  have HK1 : Hid _ := hK1
  clear hK1
  go_wp2_with (first
    | (have _t := s1; clear s1; go_at_call 22; refine HDe.mono ?_; rintro e w3 ⟨a3, c3, rfl, hA3, y3⟩; have b4 := BxS.new w3 62 (orA 0 false false 0 none 0 0); have G4 := World.grownBy_alloc w3 (.cells (orA 0 false false 0 none 0 0) 62) none; have s2 : True := trivial)
    | (have _t := s2; clear s2; refine wpList_stX _ rfl _ (.tmp 7) (.tmp 15) rfl w3.heap.size _ (orA 3 false false (k : Int) a3 1 c3) rfl rfl b4 Try.info_or rfl (by simp [orA, Value.oneCell']) ?_; intro w5 b5 u5))
  refine HK1.out _ _ ?_
  clear HK1
  have G5 : w.grownBy w5 none := grown_far (grown_trans y3 G4) u5 (fun z e => by cases e; exact y3.size)
  have hM5 := hM.keep G5
  have hA5 : Ans w5 w.heap.size a3 1 c3 [k] := (hA3.keep G4).kept u5 (by
    cases e : (Value.slice a3 1 c3).ownBlock with
    | none => exact .inl rfl
    | some x => exact .inr (fun e2 => by have e2 := Option.some.inj e2; subst e2; exact (hA3.keep G4).box b4 (by decide) e))
  obtain ⟨g7, hg7⟩ : ∃ g, w3.heap.size = g := ⟨_, rfl⟩
  rw [hg7] at b5 ⊢
  clear hg7 b4 u5 G4 hA3 HDe y3
  have c7 : w5.cell? ⟨g7, 4, none⟩ = some (.slice a3 1 c3) := b5.cell 4 (by show 4 < 5; decide)
  refine wp_seq_k fun K2 hK2 => ?_
  have HK2 : Hid _ := hK2
  clear hK2
  go_wp2
  refine HK2.out _ _ ?_
  clear HK2
  refine wp_seq_k fun K3 hK3 => ?_
  have HK3 : Hid _ := hK3
  clear hK3
  have Gd := grown_drew w5 none
  have hMd := hM5.keep Gd
  have hAd := hA5.keep Gd
  have SS : BxS w5.drew gl 31 (lkA l.d X.h l.x (.slice X.wa X.wn X.wc) (.slice X.oa X.on X.oc) (.slice X.da X.dn X.dc) l.a X.z l.he) ∧ BxS w5.drew g7 62 (orA 3 false false (k : Int) a3 1 c3) := ⟨hMd.bx, b5.keep Gd (by simp)⟩
  refine wp_regionM (fun wz => BxS wz gl 31 (lkA l.d X.h l.x (.slice X.wa X.wn X.wc) (.slice X.oa X.on X.oc) (.slice X.da X.dn X.dc) l.a X.z l.he) ∧ BxS wz g7 62 (orA 3 false false (k : Int) a3 1 c3)) [] #[false, false, false, false, false, false, false, false, false, false, false, false, false, false, false] rfl (by kernel_rfl) ?_
  generalize w5.drew = wd at *
  refine wpAnyY_take [] 0 (.pointer (some ⟨gl, 0, none⟩)) rfl (by kernel_rfl) (fun _ _ _ h => h) SS rfl (by rintro wz ⟨z1, z2⟩; go_simp) ?_
  try simp only [List.getElem_toArray, List.getElem_cons_succ, List.getElem_cons_zero, Act.put, List.setIfInBounds_toArray, List.set_cons_zero, List.set_cons_succ]
  refine wpAnyY_take [] 1 (.pointer (some ⟨gl, 0, none⟩)) rfl (by kernel_rfl) (fun _ _ _ h => h) SS rfl (by rintro wz ⟨z1, z2⟩; go_simp) ?_
  try simp only [List.getElem_toArray, List.getElem_cons_succ, List.getElem_cons_zero, Act.put, List.setIfInBounds_toArray, List.set_cons_zero, List.set_cons_succ]
  refine wpAnyY_take [] 2 (.pointer (some ⟨gl, 12, none⟩)) rfl (by kernel_rfl) (fun _ _ _ h => h) SS rfl (by rintro wz ⟨z1, z2⟩; go_simp) ?_
  try simp only [List.getElem_toArray, List.getElem_cons_succ, List.getElem_cons_zero, Act.put, List.setIfInBounds_toArray, List.set_cons_zero, List.set_cons_succ]
  refine wpAnyY_take [] 3 (.agg [.int .i64 3, .int .i64 (l.x.1 : Int), .int .i64 127, .bool false, .bool l.x.2.1, .bool l.x.2.2, .int .i64 0].toArray) rfl (by kernel_rfl) (fun _ _ _ h => h) SS rfl (by rintro wz ⟨z1, z2⟩; exact ldML rfl rfl (z1.rangeL 12 (gaC l.x) rfl) Try.underlying28 rfl Try.info_gt) ?_
  try simp only [List.getElem_toArray, List.getElem_cons_succ, List.getElem_cons_zero, Act.put, List.setIfInBounds_toArray, List.set_cons_zero, List.set_cons_succ]
  refine wpAnyY_take [] 4 (.agg #[.int .i64 3, .bool false, .bool false, .int .i64 (k : Int), .slice a3 1 c3]) rfl (by kernel_rfl) (fun _ _ _ h => h) SS rfl (by rintro wz ⟨z1, z2⟩; exact ldML rfl rfl (z2.rangeL 0 [.int .i64 3, .bool false, .bool false, .int .i64 (k : Int), .slice a3 1 c3] rfl) Try.underlying62 rfl Try.info_or) ?_
  try simp only [List.getElem_toArray, List.getElem_cons_succ, List.getElem_cons_zero, Act.put, List.setIfInBounds_toArray, List.set_cons_zero, List.set_cons_succ]
  refine wpAnyY_take [] 5 (.bool room) rfl (by kernel_rfl) (fun _ _ _ h => h) SS rfl (by rintro wz ⟨z1, z2⟩; go_simp) ?_
  try simp only [List.getElem_toArray, List.getElem_cons_succ, List.getElem_cons_zero, Act.put, List.setIfInBounds_toArray, List.set_cons_zero, List.set_cons_succ]
  refine wpAnyY_twoB 6 11 rfl rfl (by kernel_rfl) (fun KK hKK => ?_) (fun KK hKK => ?_)
  ·
    go_simp
    go_at_call 23
    refine (HAc wd hAd.rd).mono ?_
    rintro e w6 ⟨rfl, y3⟩
    dsimp only
    refine hKK _ _ (fun h _ => ⟨h.1.keep y3 (by simp), h.2.keep y3 (by simp)⟩) ?_
    try simp only [List.getElem_toArray, List.getElem_cons_succ, List.getElem_cons_zero, Act.put, List.setIfInBounds_toArray, List.set_cons_zero, List.set_cons_succ]
    refine wpAnyY_takeF 7 (.tuple #[.agg #[.int .i64 3, .int .i64 (x2.1 : Int), .int .i64 127, .bool false, .bool x2.2.1, .bool x2.2.2, .int .i64 0], .bool inn, .int .i64 er]) rfl (by kernel_rfl) (fun _ _ _ h => h) rfl (by intro wz; go_simp; try rfl) ?_
    try simp only [List.getElem_toArray, List.getElem_cons_succ, List.getElem_cons_zero, Act.put, List.setIfInBounds_toArray, List.set_cons_zero, List.set_cons_succ]
    refine wpAnyY_takeF 8 (.agg #[.int .i64 3, .int .i64 (x2.1 : Int), .int .i64 127, .bool false, .bool x2.2.1, .bool x2.2.2, .int .i64 0]) rfl (by kernel_rfl) (fun _ _ _ h => h) rfl (by intro wz; go_simp; try rfl) ?_
    try simp only [List.getElem_toArray, List.getElem_cons_succ, List.getElem_cons_zero, Act.put, List.setIfInBounds_toArray, List.set_cons_zero, List.set_cons_succ]
    refine wpAnyY_takeF 9 (.bool inn) rfl (by kernel_rfl) (fun _ _ _ h => h) rfl (by intro wz; go_simp; try rfl) ?_
    try simp only [List.getElem_toArray, List.getElem_cons_succ, List.getElem_cons_zero, Act.put, List.setIfInBounds_toArray, List.set_cons_zero, List.set_cons_succ]
    refine wpAnyY_takeF 10 (.int .i64 er) rfl (by kernel_rfl) (fun _ _ _ h => h) rfl (by intro wz; go_simp; try rfl) ?_
    try simp only [List.getElem_toArray, List.getElem_cons_succ, List.getElem_cons_zero, Act.put, List.setIfInBounds_toArray, List.set_cons_zero, List.set_cons_succ]
    refine wpAnyY_oneB 11 rfl (by kernel_rfl) (fun KK hKK => ?_)
    go_simp
    have b8 := BxS.new w6 28 #[.int .i64 0, .int .i64 0, .int .i64 0, .bool false, .bool false, .bool false, .int .i64 0]
    have G8 := World.grownBy_alloc w6 (.cells #[.int .i64 0, .int .i64 0, .int .i64 0, .bool false, .bool false, .bool false, .int .i64 0] 28) none
    generalize w6.alloc (.cells #[.int .i64 0, .int .i64 0, .int .i64 0, .bool false, .bool false, .bool false, .int .i64 0] 28) = w8 at *
    refine hKK _ _ (fun h _ => ⟨h.1.keep G8 (by simp), h.2.keep G8 (by simp)⟩) ?_
    try simp only [List.getElem_toArray, List.getElem_cons_succ, List.getElem_cons_zero, Act.put, List.setIfInBounds_toArray, List.set_cons_zero, List.set_cons_succ]
    refine wpAnyY_oneB 12 rfl (by kernel_rfl) (fun KK hKK => ?_)
    refine step_of_listL rfl ?_
    refine wpList_stX _ rfl _ _ _ rfl w6.heap.size _ (gaC x2).toArray rfl rfl b8 Try.info_gt rfl (by simp [gaC, Value.oneCell']) ?_
    intro w9 b9 u9
    show KK _ w9
    refine hKK _ _ (fun h _ => ⟨h.1.keep u9 (fun e => BxS.apart h.1 b8 (by decide) (Option.some.inj e)), h.2.keep u9 (fun e => BxS.apart h.2 b8 (by decide) (Option.some.inj e))⟩) ?_
    try simp only [List.getElem_toArray, List.getElem_cons_succ, List.getElem_cons_zero, Act.put, List.setIfInBounds_toArray, List.set_cons_zero, List.set_cons_succ]
    refine wpAnyY_oneB 13 rfl (by kernel_rfl) (fun KK hKK => ?_)
    go_simp
    refine hKK _ _ (fun h _ => h) ?_
    try simp only [List.getElem_toArray, List.getElem_cons_succ, List.getElem_cons_zero, Act.put, List.setIfInBounds_toArray, List.set_cons_zero, List.set_cons_succ]
    refine wpAnyY_oneB 14 rfl (by kernel_rfl) (fun KK hKK => ?_)
    go_simp
    refine hKK _ _ (fun h _ => h) ?_
    try simp only [List.getElem_toArray, List.getElem_cons_succ, List.getElem_cons_zero, Act.put, List.setIfInBounds_toArray, List.set_cons_zero, List.set_cons_succ]
    refine wpAnyY_doneB (by kernel_rfl) ?_ _
    have Gx := grown_far (grown_trans y3 G8) u9 (fun z e => by cases e; exact y3.size)
    refine HK3.out _ _ ?_
    clear HK3
    exact ar_t5 _ wB w9 gl l X (hMd.keep Gx) he k hk hx1 room g7 _ a3 c3 (hAd.keep Gx).rd (SS.2.keep Gx (by simp)) (by rw [HX2.out]; exact b9) inn HIN.out er HER.out (fun w' X' kp h => ⟨rfl, (KpP.none (grown_trans G5 (grown_trans Gd Gx))).trans kp, X', h⟩)
  ·
    go_simp
    have b8 := BxS.new wd 28 #[.int .i64 0, .int .i64 0, .int .i64 0, .bool false, .bool false, .bool false, .int .i64 0]
    have G8 := World.grownBy_alloc wd (.cells #[.int .i64 0, .int .i64 0, .int .i64 0, .bool false, .bool false, .bool false, .int .i64 0] 28) none
    generalize wd.alloc (.cells #[.int .i64 0, .int .i64 0, .int .i64 0, .bool false, .bool false, .bool false, .int .i64 0] 28) = w8 at *
    refine hKK _ _ (fun h _ => ⟨h.1.keep G8 (by simp), h.2.keep G8 (by simp)⟩) ?_
    try simp only [List.getElem_toArray, List.getElem_cons_succ, List.getElem_cons_zero, Act.put, List.setIfInBounds_toArray, List.set_cons_zero, List.set_cons_succ]
    refine wpAnyY_oneB 6 rfl (by kernel_rfl) (fun KK hKK => ?_)
    go_simp
    go_at_call 23
    refine (HAc w8 (hAd.keep G8).rd).mono ?_
    rintro e w6 ⟨rfl, y3⟩
    dsimp only
    refine hKK _ _ (fun h _ => ⟨h.1.keep y3 (by simp), h.2.keep y3 (by simp)⟩) ?_
    try simp only [List.getElem_toArray, List.getElem_cons_succ, List.getElem_cons_zero, Act.put, List.setIfInBounds_toArray, List.set_cons_zero, List.set_cons_succ]
    have b86 := b8.keep y3 (by simp)
    refine wpAnyY_takeF 7 (.tuple #[.agg #[.int .i64 3, .int .i64 (x2.1 : Int), .int .i64 127, .bool false, .bool x2.2.1, .bool x2.2.2, .int .i64 0], .bool inn, .int .i64 er]) rfl (by kernel_rfl) (fun _ _ _ h => h) rfl (by intro wz; go_simp; try rfl) ?_
    try simp only [List.getElem_toArray, List.getElem_cons_succ, List.getElem_cons_zero, Act.put, List.setIfInBounds_toArray, List.set_cons_zero, List.set_cons_succ]
    refine wpAnyY_takeF 8 (.agg #[.int .i64 3, .int .i64 (x2.1 : Int), .int .i64 127, .bool false, .bool x2.2.1, .bool x2.2.2, .int .i64 0]) rfl (by kernel_rfl) (fun _ _ _ h => h) rfl (by intro wz; go_simp; try rfl) ?_
    try simp only [List.getElem_toArray, List.getElem_cons_succ, List.getElem_cons_zero, Act.put, List.setIfInBounds_toArray, List.set_cons_zero, List.set_cons_succ]
    refine wpAnyY_takeF 9 (.bool inn) rfl (by kernel_rfl) (fun _ _ _ h => h) rfl (by intro wz; go_simp; try rfl) ?_
    try simp only [List.getElem_toArray, List.getElem_cons_succ, List.getElem_cons_zero, Act.put, List.setIfInBounds_toArray, List.set_cons_zero, List.set_cons_succ]
    refine wpAnyY_takeF 10 (.int .i64 er) rfl (by kernel_rfl) (fun _ _ _ h => h) rfl (by intro wz; go_simp; try rfl) ?_
    try simp only [List.getElem_toArray, List.getElem_cons_succ, List.getElem_cons_zero, Act.put, List.setIfInBounds_toArray, List.set_cons_zero, List.set_cons_succ]
    refine wpAnyY_oneB 12 rfl (by kernel_rfl) (fun KK hKK => ?_)
    refine step_of_listL rfl ?_
    refine wpList_stX _ rfl _ _ _ rfl wd.heap.size _ (gaC x2).toArray rfl rfl b86 Try.info_gt rfl (by simp [gaC, Value.oneCell']) ?_
    intro w9 b9 u9
    show KK _ w9
    refine hKK _ _ (fun h _ => ⟨h.1.keep u9 (fun e => BxS.apart h.1 b86 (by decide) (Option.some.inj e)), h.2.keep u9 (fun e => BxS.apart h.2 b86 (by decide) (Option.some.inj e))⟩) ?_
    try simp only [List.getElem_toArray, List.getElem_cons_succ, List.getElem_cons_zero, Act.put, List.setIfInBounds_toArray, List.set_cons_zero, List.set_cons_succ]
    refine wpAnyY_oneB 13 rfl (by kernel_rfl) (fun KK hKK => ?_)
    go_simp
    refine hKK _ _ (fun h _ => h) ?_
    try simp only [List.getElem_toArray, List.getElem_cons_succ, List.getElem_cons_zero, Act.put, List.setIfInBounds_toArray, List.set_cons_zero, List.set_cons_succ]
    refine wpAnyY_oneB 14 rfl (by kernel_rfl) (fun KK hKK => ?_)
    go_simp
    refine hKK _ _ (fun h _ => h) ?_
    try simp only [List.getElem_toArray, List.getElem_cons_succ, List.getElem_cons_zero, Act.put, List.setIfInBounds_toArray, List.set_cons_zero, List.set_cons_succ]
    refine wpAnyY_doneB (by kernel_rfl) ?_ _
    have Gx := grown_far (grown_trans G8 y3) u9 (fun z e => by cases e; exact Nat.le_refl _)
    refine HK3.out _ _ ?_
    clear HK3
    exact ar_t5 _ wB w9 gl l X (hMd.keep Gx) he k hk hx1 room g7 _ a3 c3 (hAd.keep Gx).rd (SS.2.keep Gx (by simp)) (by rw [HX2.out]; exact b9) inn HIN.out er HER.out (fun w' X' kp h => ⟨rfl, (KpP.none (grown_trans G5 (grown_trans Gd Gx))).trans kp, X', h⟩)
end
end Go.Proofs.Ytlfacjpehhcdiaa
