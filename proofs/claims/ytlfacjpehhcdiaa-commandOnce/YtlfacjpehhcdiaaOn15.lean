import Derived.Test.YtlfacjpehhcdiaaOn14
namespace Go.Proofs.Ytlfacjpehhcdiaa
open Go.RowKit
set_option maxRecDepth 100000
set_option linter.unusedVariables false
set_option linter.unusedSimpArgs false

section
set_option maxHeartbeats 16000000 in
/-- what was let in is the beginning of what was asked for -/
theorem inOrder_any (wB w : World) (gl : Nat) (l : Lk) (X : Lx) (hM : LM wB w gl l X) (hx : l.x.1 ≤ l.a) (ha : l.a ≤ 100) :
    Calls Try.prog 13 #[.pointer (some ⟨gl, 0, none⟩)] w fun e w' => e = .returned (.bool true) ∧ w.grownBy w' none := by
  have hdl := hM.c.dl
  have hle : (X.dn : Int) ≤ (l.a : Int) := by omega
  have hd100 : X.dn ≤ 100 := by omega
  have hA := hM.c.dn
  rw [← hdl] at hA
  clear hdl
  have c21 : w.cell? ⟨gl, 21, none⟩ = some (.slice X.da X.dn X.dc) := hM.bx.cell 21 (by show 21 < 25; decide)
  have HAT : Hid _ := hA.rd.at'
  have hcap := hA.max
  unfold maxLen at hcap
  clear hA
  go_enter Try.func13, Try.ntmps13
  refine wp_seq_k fun K0 hK0 => ?_
  have HK0 : Hid _ := hK0
  clear hK0
  go_wp2
  refine HK0.out _ _ ?_
  clear HK0
  refine wp_seq_k fun K1 hK1 => ?_
  have HK1 : Hid _ := hK1
  clear hK1
  go_wp2
  go_loopw [3] (fun v3 wr => ∃ i : Nat, i ≤ X.dn ∧ v3 = .int .i64 i ∧ Hid (wr = w)) (fun v3 _ => X.dn - (intOf v3).toNat)
  case atStart => exact ⟨0, Nat.zero_le _, rfl, (rfl : _ = _)⟩
  case round =>
    obtain ⟨i, hi, rfl, hw⟩ := hrel
    have hw := hw.out
    subst hw
    by_cases hlt : i < X.dn
    · have lj : (i : Int) < (X.dn : Int) := by omega
      obtain ⟨gd, od, hda, _, hcd⟩ := HAT.out (by omega)
      have hci : wr.cell? ⟨gd, od + i, none⟩ = some (.int .u8 (i : Int)) := by
        rw [hcd i hlt]
        unfold nth
        rw [List.getD_eq_getElem?_getD, List.getElem?_range hlt]
        rfl
      rw [hda] at c21
      clear hcd hda
      go_wp2
      go_roundw
      case rel => exact ⟨i + 1, by omega, by go_num, (trivial : True)⟩
      case measure => simp [intOf] <;> omega
    · obtain rfl : i = X.dn := by omega
      have lj : ¬ (X.dn : Int) < (X.dn : Int) := by omega
      go_wp2
      refine HK1.out _ _ ?_
      clear HK1
      refine wp_seq_k fun K2 hK2 => ?_
      have HK2 : Hid _ := hK2
      clear hK2
      have Gd := grown_drew wr none
      have SS : BxS wr.drew gl 31 (lkA l.d X.h l.x (.slice X.wa X.wn X.wc) (.slice X.oa X.on X.oc) (.slice X.da X.dn X.dc) l.a X.z l.he) := hM.bx.keep Gd (by simp)
      refine wp_regionM (fun wz => BxS wz gl 31 (lkA l.d X.h l.x (.slice X.wa X.wn X.wc) (.slice X.oa X.on X.oc) (.slice X.da X.dn X.dc) l.a X.z l.he)) [] #[false, false, false, false, false, false, false, false, false, false, false] rfl (by kernel_rfl) ?_
      generalize wr.drew = wd at *
      refine wpAnyY_take [] 0 (.pointer (some ⟨gl, 0, none⟩)) rfl (by kernel_rfl) (fun _ _ _ h => h) SS rfl (by intro wz hz; go_simp) ?_
      try simp only [List.getElem_toArray, List.getElem_cons_succ, List.getElem_cons_zero, Act.put, List.setIfInBounds_toArray, List.set_cons_zero, List.set_cons_succ]
      refine wpAnyY_take [] 1 (.pointer (some ⟨gl, 0, none⟩)) rfl (by kernel_rfl) (fun _ _ _ h => h) SS rfl (by intro wz hz; go_simp) ?_
      try simp only [List.getElem_toArray, List.getElem_cons_succ, List.getElem_cons_zero, Act.put, List.setIfInBounds_toArray, List.set_cons_zero, List.set_cons_succ]
      refine wpAnyY_take [] 2 (.pointer (some ⟨gl, 21, none⟩)) rfl (by kernel_rfl) (fun _ _ _ h => h) SS rfl (by intro wz hz; go_simp) ?_
      try simp only [List.getElem_toArray, List.getElem_cons_succ, List.getElem_cons_zero, Act.put, List.setIfInBounds_toArray, List.set_cons_zero, List.set_cons_succ]
      refine wpAnyY_take [] 3 (.slice X.da X.dn X.dc) rfl (by kernel_rfl) (fun _ _ _ h => h) SS rfl (by intro wz hz; have z : wz.cell? ⟨gl, 21, none⟩ = some (.slice X.da X.dn X.dc) := hz.cell 21 (by show 21 < 25; decide); go_simp) ?_
      try simp only [List.getElem_toArray, List.getElem_cons_succ, List.getElem_cons_zero, Act.put, List.setIfInBounds_toArray, List.set_cons_zero, List.set_cons_succ]
      refine wpAnyY_take [] 4 (.int .i64 (X.dn : Int)) rfl (by kernel_rfl) (fun _ _ _ h => h) SS rfl (by intro wz hz; go_simp) ?_
      try simp only [List.getElem_toArray, List.getElem_cons_succ, List.getElem_cons_zero, Act.put, List.setIfInBounds_toArray, List.set_cons_zero, List.set_cons_succ]
      refine wpAnyY_take [] 5 (.pointer (some ⟨gl, 0, none⟩)) rfl (by kernel_rfl) (fun _ _ _ h => h) SS rfl (by intro wz hz; go_simp) ?_
      try simp only [List.getElem_toArray, List.getElem_cons_succ, List.getElem_cons_zero, Act.put, List.setIfInBounds_toArray, List.set_cons_zero, List.set_cons_succ]
      refine wpAnyY_take [] 6 (.pointer (some ⟨gl, 0, none⟩)) rfl (by kernel_rfl) (fun _ _ _ h => h) SS rfl (by intro wz hz; go_simp) ?_
      try simp only [List.getElem_toArray, List.getElem_cons_succ, List.getElem_cons_zero, Act.put, List.setIfInBounds_toArray, List.set_cons_zero, List.set_cons_succ]
      refine wpAnyY_take [] 7 (.pointer (some ⟨gl, 22, none⟩)) rfl (by kernel_rfl) (fun _ _ _ h => h) SS rfl (by intro wz hz; go_simp) ?_
      try simp only [List.getElem_toArray, List.getElem_cons_succ, List.getElem_cons_zero, Act.put, List.setIfInBounds_toArray, List.set_cons_zero, List.set_cons_succ]
      refine wpAnyY_take [] 8 (.int .i64 (l.a : Int)) rfl (by kernel_rfl) (fun _ _ _ h => h) SS rfl (by intro wz hz; have z : wz.cell? ⟨gl, 22, none⟩ = some (.int .i64 (l.a : Int)) := hz.cell 22 (by show 22 < 25; decide); go_simp) ?_
      try simp only [List.getElem_toArray, List.getElem_cons_succ, List.getElem_cons_zero, Act.put, List.setIfInBounds_toArray, List.set_cons_zero, List.set_cons_succ]
      refine wpAnyY_take [] 9 (.bool true) rfl (by kernel_rfl) (fun _ _ _ h => h) SS rfl (by intro wz hz; go_simp) ?_
      try simp only [List.getElem_toArray, List.getElem_cons_succ, List.getElem_cons_zero, Act.put, List.setIfInBounds_toArray, List.set_cons_zero, List.set_cons_succ]
      refine wpAnyY_oneB 10 rfl (by kernel_rfl) (fun KK hKK => ?_)
      go_simp
      refine hKK _ _ (fun h _ => h) ?_
      try simp only [List.getElem_toArray, List.getElem_cons_succ, List.getElem_cons_zero, Act.put, List.setIfInBounds_toArray, List.set_cons_zero, List.set_cons_succ]
      refine wpAnyY_doneB (by kernel_rfl) ?_ _
      refine HK2.out _ _ ?_
      clear HK2
      go_wp2
      first | go_ret | skip
      exact ⟨rfl, Gd⟩
set_option maxHeartbeats 16000000 in
theorem tk_t25 {u1 u2 u4 u5 u6 u7 u8 u9 u10 u11 u12 u13 u14 u15 u16 u17 u18 u19 u20 u21 u22 u23 u24 u25 u26 u27 u28 u29 u30 u31 u32 u33 u34 u35 u36 u37 u38 u39 u40 u41 u42 u43 u44 u45 u46 u47 u48 u49 u50 u51 u52 u53 u54 u55 u56 u57 u58 u59 u60 u61 u62 u63 u64 u65 u66 u67 u68 u69 u70 u71 u72 u73 u74 u75 u76 u77 u78 u79 u80 u81 u82 u83 u84 u85 u86 u87 u88 u89 u90 u91 u92 u93 u94 u95 u96 u97 u98 u99 u100 u101 u102 u103 u104 u105 u106 u107 u108 u109 u110 u111 u112 u113 u114 u115 u116 u117 u118 u119 u120 u121 u122 u123 u124 u125 u126 u127 u128 u129 u130 u131 u132 u133 u134 u135 u136 u137 u138 u139 u140 u141 u142 u143 u144 u145 u146 u147 u148 u149 u150 u151 u152 u153 u154 u155 u156 u157 u158 u159 u160 u161 u162 u163 u164 u165 u166 u167 u168 u169 u170 u171 u172 u173 u174 u175 u176 u177 u178 u179 u180 u181 u182 u183 u184 u185 u186 u187 u188 u189 u190 u191 u192 u193 u194 u195 : Value} (P : Ending → World → Prop) (wB w : World) (gl gp : Nat) (l : Lk) (X : Lx) (hM : LM wB w gl l X) (he : l.he = false) (hx : l.x.1 ≤ l.a) (ha : l.a ≤ 100) (As Co Lo Ag : Int) (Fu De : Bool) (bp : BxS w gp 36 #[.int .i64 As, .int .i64 Co, .int .i64 Lo, .bool Fu, .bool De, .int .i64 Ag])
    (hP : ∀ w' X', LM wB w' gl { l with he := !De } X' → P (.returned (.bool true)) w') :
    Code.wp Try.prog (tailR 25 (Try.f5.body.getD .skip)) (bodyPost Try.prog Try.f5 P) (Act.mk (List.toArray ((.pointer (some ⟨gl, 0, none⟩)) :: u1 :: u2 :: (.pointer (some ⟨gp, 0, none⟩)) :: u4 :: u5 :: u6 :: u7 :: u8 :: u9 :: u10 :: u11 :: u12 :: u13 :: u14 :: u15 :: u16 :: u17 :: u18 :: u19 :: u20 :: u21 :: u22 :: u23 :: u24 :: u25 :: u26 :: u27 :: u28 :: u29 :: u30 :: u31 :: u32 :: u33 :: u34 :: u35 :: u36 :: u37 :: u38 :: u39 :: u40 :: u41 :: u42 :: u43 :: u44 :: u45 :: u46 :: u47 :: u48 :: u49 :: u50 :: u51 :: u52 :: u53 :: u54 :: u55 :: u56 :: u57 :: u58 :: u59 :: u60 :: u61 :: u62 :: u63 :: u64 :: u65 :: u66 :: u67 :: u68 :: u69 :: u70 :: u71 :: u72 :: u73 :: u74 :: u75 :: u76 :: u77 :: u78 :: u79 :: u80 :: u81 :: u82 :: u83 :: u84 :: u85 :: u86 :: u87 :: u88 :: u89 :: u90 :: u91 :: u92 :: u93 :: u94 :: u95 :: u96 :: u97 :: u98 :: u99 :: u100 :: u101 :: u102 :: u103 :: u104 :: u105 :: u106 :: u107 :: u108 :: u109 :: u110 :: u111 :: u112 :: u113 :: u114 :: u115 :: u116 :: u117 :: u118 :: u119 :: u120 :: u121 :: u122 :: u123 :: u124 :: u125 :: u126 :: u127 :: u128 :: u129 :: u130 :: u131 :: u132 :: u133 :: u134 :: u135 :: u136 :: u137 :: u138 :: u139 :: u140 :: u141 :: u142 :: u143 :: u144 :: u145 :: u146 :: u147 :: u148 :: u149 :: u150 :: u151 :: u152 :: u153 :: u154 :: u155 :: u156 :: u157 :: u158 :: u159 :: u160 :: u161 :: u162 :: u163 :: u164 :: u165 :: u166 :: u167 :: u168 :: u169 :: u170 :: u171 :: u172 :: u173 :: u174 :: u175 :: u176 :: u177 :: u178 :: u179 :: u180 :: u181 :: u182 :: u183 :: u184 :: u185 :: u186 :: u187 :: u188 :: u189 :: u190 :: u191 :: u192 :: u193 :: u194 :: u195 :: [])) []) w := by
  conv => enter [2]; whnf
  have HP : Hid _ := hP
  clear hP
  have c4 : w.cell? ⟨gp, 4, none⟩ = some (.bool De) := bp.cell 4 (by show 4 < 6; decide)
  cases De with
  | true =>
    have hL : LM wB w gl { l with he := false } X := by
      have e : ({ l with he := false } : Lk) = l := by rw [← he]
      rw [e]
      exact hM
    have HI := inOrder_any wB w gl l X hM hx ha
    have HL : Hid _ := hL
    clear hL
    go_wp2_with (go_at_call 13; refine HI.mono ?_; rintro e w6 ⟨rfl, G6⟩)
    first | go_ret | skip
    exact HP.out _ _ (HL.out.keep G6)
  | false =>
    obtain ⟨z, hz⟩ : ∃ z : Int, z = l.z := ⟨_, rfl⟩
    have HRe : Calls Try.prog 12 #[.agg (gaC l.x).toArray] w fun e w' => e = .returned (.tuple #[.int .i64 z, .int .i64 0]) ∧ w.grownBy w' none := (report_any 3 (l.x.1 : Int) 127 false l.x.2.1 l.x.2.2 0 w).mono (fun e w' h => by
      obtain ⟨r1, r2⟩ := rp_gT l.x (by omega)
      rw [r1, r2] at h
      rw [hz]
      exact h)
    have HZ : Hid _ := hz
    clear hz
    have bM := hM.bx
    refine wp_seq_k fun K0 hK0 => ?_
    have HK0 : Hid _ := hK0
    clear hK0
    refine wp_seq_k fun K1 hK1 => ?_
    have HK1 : Hid _ := hK1
    clear hK1
    go_wp2
    refine HK1.out _ _ ?_
    clear HK1
    refine wp_cond_true rfl ?_
    refine wp_seq_k fun K2 hK2 => ?_
    have HK2 : Hid _ := hK2
    clear hK2
    have s1 : True := trivial
    go_wp2_with (first
      | (have _t := s1; clear s1; refine wpList_load_mid rfl _ (.tmp 180) rfl gl 12 rfl (gaC l.x) _ (bM.rangeL 12 (gaC l.x) rfl) Try.underlying28 rfl Try.info_gt ?_; have s2 : True := trivial)
      | (have _t := s2; clear s2; go_at_call 12; refine HRe.mono ?_; rintro e w3 ⟨rfl, G3⟩))
    refine HK2.out _ _ ?_
    clear HK2
    refine wp_seq_k fun K3 hK3 => ?_
    have HK3 : Hid _ := hK3
    clear hK3
    go_wp2
    refine HK3.out _ _ ?_
    clear HK3
    have b3 := bM.keep G3 (by simp)
    have s1 : True := trivial
    go_wp2_with (first
      | (have _t := s1; clear s1; refine wpList_stC _ rfl _ (.tmp 191) _ rfl gl 23 31 _ (lkA l.d X.h l.x (.slice X.wa X.wn X.wc) (.slice X.oa X.on X.oc) (.slice X.da X.dn X.dc) l.a z l.he) (.int .i64 z) rfl rfl b3 (stc_int _ _ _) (by show 23 < 25; decide) rfl ?_; intro w4 b4 u4; have s2 : True := trivial)
      | (have _t := s2; clear s2; refine wpList_stC _ rfl _ (.tmp 193) _ rfl gl 24 31 _ (lkA l.d X.h l.x (.slice X.wa X.wn X.wc) (.slice X.oa X.on X.oc) (.slice X.da X.dn X.dc) l.a z true) (.bool true) rfl rfl b4 (stc_bool _ _ _) (by show 24 < 25; decide) rfl ?_; intro w5 b5 u5))
    refine HK0.out _ _ ?_
    clear HK0
    have hM5 := (((hM.c.keep G3).box b4 u4).told true z (fun _ => HZ.out)).st b5 u5
    have HI := inOrder_any wB w5 gl _ _ hM5 hx ha
    have HM5 : Hid _ := hM5
    clear b3 b4 b5 u4 u5 hM5
    go_wp2_with (go_at_call 13; refine HI.mono ?_; rintro e w6 ⟨rfl, G6⟩)
    first | go_ret | skip
    exact HP.out _ _ (HM5.out.keep G6)
end

section
/-- 'v[1:]' of rows -/
theorem wpList_tlRO {w : World} {lo : Nat} {ops : Array Oper} {rest : List Oper} {o : Oper} {ac : Act} {Q : Exit → Act → World → Prop} (hg : o.guard = none) (s : Operand)
    (hop : o.op = Op.slice 23 s (some (.const (.int .i64 1))) none none) (g of' n c : Nat) (rs : List Rw) (hs : ac.eval s = .slice (some ⟨g, of', none⟩) n c) (hA : RO w lo (some ⟨g, of', none⟩) n c rs) (hn : 0 < n)
    (hK : ∀ a' c', RO w lo a' (n - 1) c' (rs.drop 1) → (∀ y, Hb a' y → Hb (some ⟨g, of', none⟩) y) → wpList Try.prog ops Q rest (ac.put o.dst (.slice a' (n - 1) c')) w) :
    wpList Try.prog ops Q (o :: rest) ac w := by
  have hx := hA.max
  unfold maxLen at hx
  have h1 : (1 : Int) ≤ (n : Int) := by omega
  have h2 : (n : Int) ≤ (c : Int) := by omega
  have hev : ac.eval (.const (.int .i64 1)) = .int .i64 1 := rfl
  refine wpList_plain hg fun K hK2 => ?_
  by_cases hc : c = 1
  · have hh := hK _ _ (hA.tail0 1 hn hc) (fun y h => h)
    subst hc
    have hrun : (Instr.sliceAt 23 (.slice (some ⟨g, of', none⟩) n 1) (some (.int .i64 1)) none none).run Try.prog w = .ok (.slice (some ⟨g, of', none⟩) (n - 1) 0) w := by
      simp [go_sem, h1, h2, Try.underlying23]

    unfold Oper.wp
    simp [execOp, hop, hs, hev, hrun, Result.andThen]
    exact hK2 _ _ hh
  · have hh := hK _ _ (hA.tail 1 hn) (fun y h => by obtain ⟨o, s, e⟩ := h; cases e; exact ⟨_, _, rfl⟩)
    have hrun : (Instr.sliceAt 23 (.slice (some ⟨g, of', none⟩) n c) (some (.int .i64 1)) none none).run Try.prog w = .ok (.slice (some ⟨g, of' + 1, none⟩) (n - 1) (c - 1)) w := by
      simp [go_sem, h1, h2, hc, Try.underlying23]

    unfold Oper.wp
    simp [execOp, hop, hs, hev, hrun, Result.andThen]
    exact hK2 _ _ hh
/-- bytes lie still where a link is written -/
theorem rd_box {w w' : World} {a : Option Addr} {n c g : Nat} {L : List Nat} {d : Hd} {H : Hx} {x : Nat × Bool × Bool} {wa oa da : Option Addr} {wn wc on oc dn dc p : Nat} {z : Int} {he : Bool} (h : Rd w a n c L) (u : w.grownBy w' (some g)) (hb : BxS w g 31 (lkA d H x (.slice wa wn wc) (.slice oa on oc) (.slice da dn dc) p z he)) : Rd w' a n c L := by
  refine h.grown' u (fun h0 b off e e2 => ?_)
  obtain ⟨b1, o1, e1, _, hc⟩ := h.at' h0
  rw [e1] at e
  cases e
  have e2 := Option.some.inj e2
  subst e2
  have h9 := hc 0 h0
  rw [cell_of_row _ _ _ _ _ _ hb] at h9
  exact lka_nob _ _ _ _ _ _ _ _ _ _ _ _ _ _ _ _ _ h9
theorem gaF_take (x : Nat × Bool × Bool) (W : List Nat) (i k : Nat) (h : W[i]? = some k) : gaF true x (W.take (i + 1)) = ga true (gaF true x (W.take i)) k := by
  have e : W.take (i + 1) = W.take i ++ [k] := by rw [List.take_add_one, h]; rfl
  rw [e, gaF_app]
  rfl
set_option maxHeartbeats 16000000 in
theorem tk_t17 {u1 u2 u4 u5 u6 u7 u8 u9 u10 u11 u12 u13 u14 u15 u16 u17 u18 u19 u20 u21 u22 u23 u24 u25 u26 u27 u28 u29 u30 u31 u32 u33 u34 u35 u36 u37 u38 u39 u40 u41 u42 u43 u44 u45 u46 u47 u48 u49 u50 u51 u52 u53 u54 u55 u56 u57 u58 u59 u60 u61 u62 u63 u64 u65 u66 u67 u68 u69 u70 u71 u72 u73 u74 u75 u76 u77 u78 u79 u80 u81 u82 u83 u84 u85 u86 u87 u88 u89 u90 u91 u92 u93 u94 u95 u96 u97 u98 u99 u100 u101 u102 u103 u104 u105 u106 u107 u108 u109 u110 u111 u112 u113 u114 u115 u116 u117 u118 u119 u120 u121 u122 u123 u124 u125 u126 u127 u128 u129 u130 u131 u132 u133 u134 u135 u136 u137 u138 u139 u140 u141 u142 u143 u144 u145 u146 u147 u148 u149 u150 u151 u152 u153 u154 u155 u156 u157 u158 u159 u160 u161 u162 u163 u164 u165 u166 u167 u168 u169 u170 u171 u172 u173 u174 u175 u176 u177 u178 u179 u180 u181 u182 u183 u184 u185 u186 u187 u188 u189 u190 u191 u192 u193 u194 u195 : Value} (P : Ending → World → Prop) (wB w : World) (gl gp : Nat) (l : Lk) (X0 : Lx) (hM0 : LM wB w gl l X0) (he : l.he = false) (s f : Nat) (hL0 : LI l s f) (hw : l.way.length ≤ 100000) (As Co Lo Ag : Int) (Fu De : Bool) (hCo : -9223372036854775808 ≤ Co ∧ Co ≤ 9223372036854775807) (hLo : -9223372036854775808 ≤ Lo ∧ Lo ≤ 9223372036854775807) (bp : BxS w gp 36 #[.int .i64 As, .int .i64 Co, .int .i64 Lo, .bool Fu, .bool De, .int .i64 Ag])
    (hP : ∀ w' X' x, LM wB w' gl { l with x := x, way := l.way.drop Co.toNat, he := !De } X' → LI { l with x := x, way := l.way.drop Co.toNat, he := !De } s f → (Lo = 0 → Fu = false → x = gaF true l.x (l.way.take Co.toNat)) → P (.returned (.bool true)) w') :
    Code.wp Try.prog (tailR 17 (Try.f5.body.getD .skip)) (bodyPost Try.prog Try.f5 P) (Act.mk (List.toArray ((.pointer (some ⟨gl, 0, none⟩)) :: u1 :: u2 :: (.pointer (some ⟨gp, 0, none⟩)) :: u4 :: u5 :: u6 :: u7 :: u8 :: u9 :: u10 :: u11 :: u12 :: u13 :: u14 :: u15 :: u16 :: u17 :: u18 :: u19 :: u20 :: u21 :: u22 :: u23 :: u24 :: u25 :: u26 :: u27 :: u28 :: u29 :: u30 :: u31 :: u32 :: u33 :: u34 :: u35 :: u36 :: u37 :: u38 :: u39 :: u40 :: u41 :: u42 :: u43 :: u44 :: u45 :: u46 :: u47 :: u48 :: u49 :: u50 :: u51 :: u52 :: u53 :: u54 :: u55 :: u56 :: u57 :: u58 :: u59 :: u60 :: u61 :: u62 :: u63 :: u64 :: u65 :: u66 :: u67 :: u68 :: u69 :: u70 :: u71 :: u72 :: u73 :: u74 :: u75 :: u76 :: u77 :: u78 :: u79 :: u80 :: u81 :: u82 :: u83 :: u84 :: u85 :: u86 :: u87 :: u88 :: u89 :: u90 :: u91 :: u92 :: u93 :: u94 :: u95 :: u96 :: u97 :: u98 :: u99 :: u100 :: u101 :: u102 :: u103 :: u104 :: u105 :: u106 :: u107 :: u108 :: u109 :: u110 :: u111 :: u112 :: u113 :: u114 :: u115 :: u116 :: u117 :: u118 :: u119 :: u120 :: u121 :: u122 :: u123 :: u124 :: u125 :: u126 :: u127 :: u128 :: u129 :: u130 :: u131 :: u132 :: u133 :: u134 :: u135 :: u136 :: u137 :: u138 :: u139 :: u140 :: u141 :: u142 :: u143 :: u144 :: u145 :: u146 :: u147 :: u148 :: u149 :: u150 :: u151 :: u152 :: u153 :: u154 :: u155 :: u156 :: u157 :: u158 :: u159 :: u160 :: u161 :: u162 :: u163 :: u164 :: u165 :: u166 :: u167 :: u168 :: u169 :: u170 :: u171 :: u172 :: u173 :: u174 :: u175 :: u176 :: u177 :: u178 :: u179 :: u180 :: u181 :: u182 :: u183 :: u184 :: u185 :: u186 :: u187 :: u188 :: u189 :: u190 :: u191 :: u192 :: u193 :: u194 :: u195 :: [])) []) w := by
  conv => enter [2]; whnf
  have HP : Hid _ := hP
  have HW : Hid _ := hw
  have HHE : Hid _ := he
  clear hP hw he
  refine wp_seq_k fun K0 hK0 => ?_
  have HK0 : Hid _ := hK0
  clear hK0
  go_wp2
  go_loopw [11, 12] (fun v11 v12 wr => ∃ (i : Nat) (x : Nat × Bool × Bool) (X : Lx), i ≤ l.way.length ∧ i ≤ Co.toNat ∧ v11 = .int .i64 i ∧ LM wB wr gl { l with x := x, way := l.way.drop i } X ∧ LI { l with x := x, way := l.way.drop i } s f ∧ Hid (Lo = 0 → Fu = false → x = gaF true l.x (l.way.take i)) ∧ BxS wr gp 36 #[.int .i64 As, .int .i64 Co, .int .i64 Lo, .bool Fu, .bool De, .int .i64 Ag]) (fun v11 v12 _ => l.way.length - (intOf v11).toNat)
  case atStart => exact ⟨0, l.x, X0, Nat.zero_le _, Nat.zero_le _, rfl, hM0, hL0, fun _ _ => rfl, bp⟩
  case round =>
    obtain ⟨i, x, X, hi, hic, rfl, hM, hL, HQ, bpr⟩ := hrel
    have c1 : wr.cell? ⟨gp, 1, none⟩ = some (.int .i64 Co) := bpr.cell 1 (by show 1 < 6; decide)
    have c19 : wr.cell? ⟨gl, 19, none⟩ = some (.slice X.wa X.wn X.wc) := hM.bx.cell 19 (by show 19 < 25; decide)
    have HWN : Hid (X.wn = l.way.length - i) := by
      have := hM.c.wl
      rw [List.length_drop] at this
      exact this
    have fin : ∀ {u1 u2 u4 u5 u6 u7 u8 u9 u10 u11 u12 u13 u14 u15 u16 u17 u18 u19 u20 u21 u22 u23 u24 u25 u26 u27 u28 u29 u30 u31 u32 u33 u34 u35 u36 u37 u38 u39 u40 u41 u42 u43 u44 u45 u46 u47 u48 u49 u50 u51 u52 u53 u54 u55 u56 u57 u58 u59 u60 u61 u62 u63 u64 u65 u66 u67 u68 u69 u70 u71 u72 u73 u74 u75 u76 u77 u78 u79 u80 u81 u82 u83 u84 u85 u86 u87 u88 u89 u90 u91 u92 u93 u94 u95 u96 u97 u98 u99 u100 u101 u102 u103 u104 u105 u106 u107 u108 u109 u110 u111 u112 u113 u114 u115 u116 u117 u118 u119 u120 u121 u122 u123 u124 u125 u126 u127 u128 u129 u130 u131 u132 u133 u134 u135 u136 u137 u138 u139 u140 u141 u142 u143 u144 u145 u146 u147 u148 u149 u150 u151 u152 u153 u154 u155 u156 u157 u158 u159 u160 u161 u162 u163 u164 u165 u166 u167 u168 u169 u170 u171 u172 u173 u174 u175 u176 u177 u178 u179 u180 u181 u182 u183 u184 u185 u186 u187 u188 u189 u190 u191 u192 u193 u194 u195 : Value} (hd : l.way.drop i = l.way.drop Co.toNat) (ht : l.way.take i = l.way.take Co.toNat), Code.wp Try.prog (tailR 25 (Try.f5.body.getD .skip)) (bodyPost Try.prog Try.f5 P) (Act.mk (List.toArray ((.pointer (some ⟨gl, 0, none⟩)) :: u1 :: u2 :: (.pointer (some ⟨gp, 0, none⟩)) :: u4 :: u5 :: u6 :: u7 :: u8 :: u9 :: u10 :: u11 :: u12 :: u13 :: u14 :: u15 :: u16 :: u17 :: u18 :: u19 :: u20 :: u21 :: u22 :: u23 :: u24 :: u25 :: u26 :: u27 :: u28 :: u29 :: u30 :: u31 :: u32 :: u33 :: u34 :: u35 :: u36 :: u37 :: u38 :: u39 :: u40 :: u41 :: u42 :: u43 :: u44 :: u45 :: u46 :: u47 :: u48 :: u49 :: u50 :: u51 :: u52 :: u53 :: u54 :: u55 :: u56 :: u57 :: u58 :: u59 :: u60 :: u61 :: u62 :: u63 :: u64 :: u65 :: u66 :: u67 :: u68 :: u69 :: u70 :: u71 :: u72 :: u73 :: u74 :: u75 :: u76 :: u77 :: u78 :: u79 :: u80 :: u81 :: u82 :: u83 :: u84 :: u85 :: u86 :: u87 :: u88 :: u89 :: u90 :: u91 :: u92 :: u93 :: u94 :: u95 :: u96 :: u97 :: u98 :: u99 :: u100 :: u101 :: u102 :: u103 :: u104 :: u105 :: u106 :: u107 :: u108 :: u109 :: u110 :: u111 :: u112 :: u113 :: u114 :: u115 :: u116 :: u117 :: u118 :: u119 :: u120 :: u121 :: u122 :: u123 :: u124 :: u125 :: u126 :: u127 :: u128 :: u129 :: u130 :: u131 :: u132 :: u133 :: u134 :: u135 :: u136 :: u137 :: u138 :: u139 :: u140 :: u141 :: u142 :: u143 :: u144 :: u145 :: u146 :: u147 :: u148 :: u149 :: u150 :: u151 :: u152 :: u153 :: u154 :: u155 :: u156 :: u157 :: u158 :: u159 :: u160 :: u161 :: u162 :: u163 :: u164 :: u165 :: u166 :: u167 :: u168 :: u169 :: u170 :: u171 :: u172 :: u173 :: u174 :: u175 :: u176 :: u177 :: u178 :: u179 :: u180 :: u181 :: u182 :: u183 :: u184 :: u185 :: u186 :: u187 :: u188 :: u189 :: u190 :: u191 :: u192 :: u193 :: u194 :: u195 :: [])) []) wr := by
      intro u1 u2 u4 u5 u6 u7 u8 u9 u10 u11 u12 u13 u14 u15 u16 u17 u18 u19 u20 u21 u22 u23 u24 u25 u26 u27 u28 u29 u30 u31 u32 u33 u34 u35 u36 u37 u38 u39 u40 u41 u42 u43 u44 u45 u46 u47 u48 u49 u50 u51 u52 u53 u54 u55 u56 u57 u58 u59 u60 u61 u62 u63 u64 u65 u66 u67 u68 u69 u70 u71 u72 u73 u74 u75 u76 u77 u78 u79 u80 u81 u82 u83 u84 u85 u86 u87 u88 u89 u90 u91 u92 u93 u94 u95 u96 u97 u98 u99 u100 u101 u102 u103 u104 u105 u106 u107 u108 u109 u110 u111 u112 u113 u114 u115 u116 u117 u118 u119 u120 u121 u122 u123 u124 u125 u126 u127 u128 u129 u130 u131 u132 u133 u134 u135 u136 u137 u138 u139 u140 u141 u142 u143 u144 u145 u146 u147 u148 u149 u150 u151 u152 u153 u154 u155 u156 u157 u158 u159 u160 u161 u162 u163 u164 u165 u166 u167 u168 u169 u170 u171 u172 u173 u174 u175 u176 u177 u178 u179 u180 u181 u182 u183 u184 u185 u186 u187 u188 u189 u190 u191 u192 u193 u194 u195 hd ht
      rw [hd] at hM hL
      rw [ht] at HQ
      have hx1 := hL.hi.sa
      have hx2 := hL.xs
      refine tk_t25 P wB wr gl gp _ X hM HHE.out (by show x.1 ≤ l.a; have h1 : s ≤ l.a := hx1; have h2 : x.1 ≤ s := hx2; omega) hL.hi.a1 As Co Lo Ag Fu De bpr ?_
      intro w' X' h
      exact HP.out w' X' x h (li_way hL _ (fun k hk => hk) _) HQ.out
    by_cases h1 : (i : Int) < Co
    · by_cases h2 : 0 < X.wn
      · have l2 : (0 : Int) < (X.wn : Int) := by omega
        have hil : i < l.way.length := by have := HWN.out; omega
        obtain ⟨k, hk⟩ : ∃ k, l.way[i]? = some k := ⟨l.way[i]'hil, List.getElem?_eq_getElem _⟩
        have hdr : l.way.drop i = k :: l.way.drop (i + 1) := by
          rw [List.drop_eq_getElem_cons hil]
          congr 1
          have := List.getElem?_eq_getElem hil
          rw [hk] at this
          exact (Option.some.inj this).symm
        have hks : k < s := hL.wy k (by show k ∈ l.way.drop i; rw [hdr]; exact List.mem_cons_self ..)
        have hx1 := hL.x1
        have hrr := hM.c.wy.rdr
        obtain ⟨gw, ow, hwa, _, hcw⟩ := hrr.at' h2
        obtain ⟨r0, hr0⟩ : ∃ r0, X.wr.getD 0 kr0 = r0 := ⟨_, rfl⟩
        have hd0 := hrr.data 0 h2
        have c0 := hcw 0 h2
        try dsimp only at c0 hd0
        rw [Nat.add_zero] at c0
        rw [hr0] at c0 hd0
        have hD0 : r0.D = frm k := by
          have h9 := hM.c.wD.out
          have hln := hM.c.wy.len
          have h8 := congrArg (fun L => L.getD 0 []) h9
          dsimp only at h8
          rw [hdr] at h8
          have h7 : X.wr[0]? = some r0 := by
            rw [← hr0, List.getD_eq_getElem?_getD]
            rw [List.getElem?_eq_getElem (by omega)]
            rfl
          rw [List.getD_eq_getElem?_getD, List.getElem?_map, h7] at h8
          exact h8
        rw [hD0] at hd0
        have hmx := hM.c.wy.max
        have hWY := hM.c.wy
        have bM := hM.bx
        have HM : Hid _ := hM
        have HL : Hid _ := hL
        have HDR : Hid _ := hdr
        have HWA : Hid _ := hwa
        have HK : Hid _ := hk
        rw [hwa] at c19 hWY bM
        clear hM hL hdr hcw hrr hr0 hD0 hwa hk HWN fin
        have hmx1 : (X.wn : Int) ≤ (X.wc : Int) := by omega
        unfold maxLen at hmx
        refine wp_seq_k fun K1 hK1 => ?_
        have HK1 : Hid _ := hK1
        clear hK1
        go_wp2
        refine HK1.out _ _ ?_
        clear HK1
        refine wp_seq_k fun K2 hK2 => ?_
        have HK2 : Hid _ := hK2
        clear hK2
        refine wp_block ?_
        refine wp_seq_k fun K3 hK3 => ?_
        have HK3 : Hid _ := hK3
        clear hK3
        go_wp2
        refine HK3.out _ _ ?_
        clear HK3
        refine wp_seq_k fun K4 hK4 => ?_
        have HK4 : Hid _ := hK4
        clear hK4
        have s1 : True := trivial
        go_wp2_with (first
          | (have _t := s1; clear s1; refine wpList_tlRO rfl (.tmp 156) rfl gw ow X.wn X.wc X.wr rfl hWY h2 ?_; intro a7 c7 hW7 hz7; have s2 : True := trivial)
          | (have _t := s2; clear s2; refine wpList_stC _ rfl _ (.tmp 159) (.tmp 157) rfl gl 19 31 _ (lkA l.d X.h x (.slice a7 (X.wn - 1) c7) (.slice X.oa X.on X.oc) (.slice X.da X.dn X.dc) l.a X.z l.he) (.slice a7 (X.wn - 1) c7) rfl rfl bM (stc_rows _ _ _ _ _) (by show 19 < 25; decide) rfl ?_; intro w8 b8 u8))
        refine HK4.out _ _ ?_
        clear HK4
        have hM8 := (HM.out.c.first HDR.out hW7 (fun y hy => by rw [HWA.out]; exact hz7 y hy)).st b8 u8
        have hL8 := li_way HL.out (l.way.drop (i + 1)) (fun j hj => by show j ∈ l.way.drop i; rw [HDR.out]; exact List.mem_cons_of_mem _ hj) l.he
        have bp8 := bpr.keep u8 (fun e => BxS.apart bpr bM (by decide) (Option.some.inj e))
        have hd8 : Rd w8 r0.a r0.n r0.c (frm k) := rd_box hd0 u8 bM
        have c82 : w8.cell? ⟨gp, 2, none⟩ = some (.int .i64 Lo) := bp8.cell 2 (by show 2 < 6; decide)
        have c83 : w8.cell? ⟨gp, 3, none⟩ = some (.bool Fu) := bp8.cell 3 (by show 3 < 6; decide)
        clear c1 c19 c0 hd0 bpr bM hWY b8 u8 hW7 hz7 HM HL
        cases hb : (bits BinOp.and .i64 (Lo / 2 ^ (i % 60)) 1 == 1) with
        | true =>
          have HB : Hid _ := hb
          go_wp2
          refine HK2.out _ _ ?_
          clear HK2
          go_wp2
          go_roundw
          case rel => exact ⟨i + 1, x, _, by omega, by omega, by go_num, hM8, hL8, (fun e _ => by have h9 := HB.out; rw [e, Int.zero_ediv] at h9; exact absurd h9 (by decide +kernel)), bp8⟩
          case measure => simp [intOf] <;> omega
        | false =>
          have HA := arrives_any wB w8 gl _ _ hM8 hx1.1 k (by omega) HHE.out r0.a r0.n r0.c hd8 (!Fu)
          have HB : Hid _ := hb
          have HL8 : Hid _ := hL8
          clear hM8 hL8 hd8
          go_wp2_with (go_at_call 11; refine HA.mono ?_; rintro e w9 ⟨rfl, kp9, X9, hM9⟩)
          refine HK2.out _ _ ?_
          clear HK2
          go_wp2
          go_roundw
          case rel =>
            refine ⟨i + 1, ga (!Fu) x k, X9, by omega, by omega, by go_num, hM9, li_come HL8.out hks (!Fu), (fun e e2 => ?_), kp9 _ _ bp8⟩
            rw [gaF_take _ _ _ _ HK.out, ← HQ.out e e2, e2]
            rfl
          case measure => simp [intOf] <;> omega
      · have l2 : ¬ (0 : Int) < (X.wn : Int) := by omega
        have hil : i = l.way.length := by have := HWN.out; omega
        have hf := @fin
        have HF : Hid _ := @hf
        clear fin hf
        go_wp2
        refine HK0.out _ _ ?_
        clear HK0
        exact HF.out (by rw [List.drop_eq_nil_of_le (by omega), List.drop_eq_nil_of_le (by omega)]) (by rw [List.take_of_length_le (by omega), List.take_of_length_le (by omega)])
    · have hie : i = Co.toNat := by omega
      have HF : Hid _ := @fin
      clear fin
      have HIE : Hid _ := hie
      clear hie
      go_wp2
      refine HK0.out _ _ ?_
      clear HK0
      exact HF.out (by rw [HIE.out]) (by rw [HIE.out])
end
end Go.Proofs.Ytlfacjpehhcdiaa
