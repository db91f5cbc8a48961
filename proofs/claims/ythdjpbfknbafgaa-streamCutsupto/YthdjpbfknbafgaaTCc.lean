import Derived.Test.YthdjpbfknbafgaaTCb
namespace Go.Proofs.Ythdjpbfknbafgaa
open Go.RowKit Go.Shelf
set_option maxRecDepth 100000
set_option linter.unusedVariables false
set_option linter.unusedSimpArgs false
attribute [local go_sem] Oper.semAt_some

set_option maxHeartbeats 16000000 in
theorem cu_19 {u0 u1 u2 u3 u4 u5 u7 u8 u9 u10 u12 u13 u14 u16 u17 u18 u19 u20 u21 u22 u23 u24 u25 u26 u27 u28 u29 u30 u31 u32 u33 u34 u35 u36 u37 u38 u39 u40 u41 u42 u43 u44 u45 u46 u47 u48 u49 u50 u51 u52 u53 u54 u55 u56 u57 u58 u59 u60 u61 u62 u63 u64 u65 u66 u67 u68 u69 u70 u71 u72 u73 u74 u75 u76 u77 u78 u79 u80 u81 u82 u83 u84 u85 u86 u87 u88 u89 u90 u91 u92 u93 u94 u95 u96 u97 u98 u99 u100 u101 u102 u103 u104 u105 u106 u107 u108 u109 u110 u111 u112 u113 u114 u115 u116 u117 u118 u119 u120 u121 u122 u123 u124 u125 u126 u127 u128 u129 u130 u131 u132 u133 u134 u135 u136 u137 u138 u139 u140 u141 u142 u143 u144 u145 u146 u147 u148 u149 u150 u151 u152 u153 u154 u155 u156 u157 u158 u159 u160 u161 u162 u163 u164 u165 u166 u167 u168 u169 u170 u171 u172 u173 u174 u175 u176 u177 u178 u179 u180 u181 u182 u183 u184 u185 u186 u187 u188 u189 u190 : Value} (w0 W : World) (p4 q4 t4 ct K n cv lo lo2 : Nat) (av : Option Addr) (dv : Value) (Vb : List Value) (Ts : List (List Fa)) (ys : List Fy) (k4 : W.cell? ⟨p4, 0, none⟩ = some (.slice av n cv)) (hn : n ≤ 1048576) (hK : K ≤ 51)
    (hX : AnsX 33 W lo (some ⟨t4, 0, none⟩) K ct Vb) (hO : OnR W lo dv Vb Ts) (hy : W.ownsRow lo2 42 4 (.slice av n cv) n (flY ys)) (hyl : ys.length = n) (hyd : ∀ y, y ∈ ys → Ans W lo2 y.1.a y.1.n y.2 y.1.D) (he : ys.map (fun y => absF y.1) = Ts.flatten) (F0 : Frm (fun _ => False) w0 W) :
    Code.wp Try.prog (tailR 19 (Try.f4.body.getD .skip)) (bodyPost Try.prog Try.f4 (fun e w' => e = .returned (.bool true) ∧ w0.grownBy w' none)) (Act.mk (List.toArray (u0 :: u1 :: u2 :: u3 :: u4 :: u5 :: (.bool false) :: u7 :: u8 :: u9 :: u10 :: (.slice (some ⟨p4, 0, none⟩) 1 q4) :: u12 :: u13 :: u14 :: (.slice (some ⟨t4, 0, none⟩) K ct) :: u16 :: u17 :: u18 :: u19 :: u20 :: u21 :: u22 :: u23 :: u24 :: u25 :: u26 :: u27 :: u28 :: u29 :: u30 :: u31 :: u32 :: u33 :: u34 :: u35 :: u36 :: u37 :: u38 :: u39 :: u40 :: u41 :: u42 :: u43 :: u44 :: u45 :: u46 :: u47 :: u48 :: u49 :: u50 :: u51 :: u52 :: u53 :: u54 :: u55 :: u56 :: u57 :: u58 :: u59 :: u60 :: u61 :: u62 :: u63 :: u64 :: u65 :: u66 :: u67 :: u68 :: u69 :: u70 :: u71 :: u72 :: u73 :: u74 :: u75 :: u76 :: u77 :: u78 :: u79 :: u80 :: u81 :: u82 :: u83 :: u84 :: u85 :: u86 :: u87 :: u88 :: u89 :: u90 :: u91 :: u92 :: u93 :: u94 :: u95 :: u96 :: u97 :: u98 :: u99 :: u100 :: u101 :: u102 :: u103 :: u104 :: u105 :: u106 :: u107 :: u108 :: u109 :: u110 :: u111 :: u112 :: u113 :: u114 :: u115 :: u116 :: u117 :: u118 :: u119 :: u120 :: u121 :: u122 :: u123 :: u124 :: u125 :: u126 :: u127 :: u128 :: u129 :: u130 :: u131 :: u132 :: u133 :: u134 :: u135 :: u136 :: u137 :: u138 :: u139 :: u140 :: u141 :: u142 :: u143 :: u144 :: u145 :: u146 :: u147 :: u148 :: u149 :: u150 :: u151 :: u152 :: u153 :: u154 :: u155 :: u156 :: u157 :: u158 :: u159 :: u160 :: u161 :: u162 :: u163 :: u164 :: u165 :: u166 :: u167 :: u168 :: u169 :: u170 :: u171 :: u172 :: u173 :: u174 :: u175 :: u176 :: u177 :: u178 :: u179 :: u180 :: u181 :: u182 :: u183 :: u184 :: u185 :: u186 :: u187 :: u188 :: u189 :: u190 :: [])) []) W := by
  conv => enter [2]; whnf
  obtain ⟨i0, hi, hz0, hz1, hz2⟩ := info_parts Try.info_fd
  have hTK : Ts.length = K := by rw [← hO.1]; exact hX.len
  have HTK : Hid _ := hTK
  have HE : Hid _ := he
  have HYL : Hid _ := hyl
  have HNF : Hid (Ts.flatten.length = n) := by
    show _ = _
    rw [← he, List.length_map, hyl]
  clear hTK he hyl
  refine wp_seq_k fun K19 hK19 => ?_
  have HK19 : Hid _ := hK19
  clear hK19
  go_wp2
  (try simp only [Exit.inBlock, Exit.then])
  refine HK19.out _ _ ?_
  clear HK19
  refine wp_seq_k fun K20 hK20 => ?_
  have HK20 : Hid _ := hK20
  clear hK20
  go_wp2
  go_loopw [23, 24] (fun v u wr => ∃ (j : Nat) (aa : Option Addr) (na ca : Nat) (zs : List Fy), v = .slice aa na ca ∧ u = .int .i64 j ∧ j ≤ K ∧ Hid (zs.length = na) ∧ wr.ownsRow W.heap.size 42 4 (.slice aa na ca) na (flY zs) ∧ Hid (zs.map (fun y => absF y.1) = (Ts.take j).flatten) ∧ (∀ y, y ∈ zs → Ans wr 0 y.1.a y.1.n y.2 y.1.D ∧ ∀ x, (Value.slice y.1.a y.1.n y.2).ownBlock = some x → x < W.heap.size) ∧ Frm (fun _ => False) W wr) (fun _ u _ => K - (intOf u).toNat)
  case atStart => exact ⟨0, none, 0, 0, [], rfl, rfl, Nat.zero_le _, rfl, World.ownsRow_nil _ _ _ _, rfl, (fun y hy => by cases hy), Frm.refl _ _⟩
  case round =>
    obtain ⟨j, aa, na, ca, zs, rfl, rfl, hj, HZL, hzo, HZM, hzd, Fr⟩ := hrel
    have hzs := Fr.size
    by_cases hlt : j < K
    · have hin : (j : Int) < (K : Int) := by omega
      obtain ⟨v, hVj⟩ : ∃ v, Vb[j]? = some v := ⟨_, List.getElem?_eq_getElem (by rw [hX.len]; exact hlt)⟩
      obtain ⟨T, hTj⟩ : ∃ T, Ts[j]? = some T := ⟨_, List.getElem?_eq_getElem (by rw [HTK.out]; exact hlt)⟩
      obtain ⟨xs, ax, cx, rfl, hxo, hxd, hxm⟩ := (hO.2 j v T hVj hTj).ex
      have hcell := cell_frm (hX.cell j _ hVj) Fr (fun h => h)
      have htk : (Ts.take (j + 1)).flatten = (Ts.take j).flatten ++ T := by rw [List.take_add_one, hTj, List.flatten_append]; simp
      have hnb : na + xs.length ≤ n := by
        have h1 : (zs ++ xs).map (fun y => absF y.1) = (Ts.take (j + 1)).flatten := by rw [htk, List.map_append, HZM.out, hxm]
        have h2 := congrArg List.length h1
        rw [List.length_map, List.length_append, HZL.out] at h2
        have h3 : (Ts.take (j + 1)).flatten.length ≤ Ts.flatten.length := by
          have h4 : Ts.flatten = (Ts.take (j + 1)).flatten ++ (Ts.drop (j + 1)).flatten := by rw [← List.flatten_append, List.take_append_drop]
          rw [h4, List.length_append]; omega
        rw [HNF.out] at h3
        omega
      have HXR : Hid _ := hxm
      have HTT : Hid _ := htk
      have hxow := row_frm hxo Fr (fun _ _ h => h)
      have hfl := flY_len xs
      have hone : ∀ u, u ∈ flY xs → u.oneCell' = true := fun u hu => by
        obtain ⟨y, _, h⟩ := List.mem_flatMap.1 hu
        unfold cellsY at h
        rcases List.mem_cons.1 h with rfl | h
        · rfl
        rcases List.mem_cons.1 h with rfl | h
        · rfl
        rcases List.mem_cons.1 h with rfl | h
        · rfl
        rw [List.mem_singleton.1 h]; rfl
      have HHO : Hid _ := hone
      have hdx : ∀ y, y ∈ xs → Ans W lo y.1.a y.1.n y.2 y.1.D := fun y hy => (hxd y hy).1
      have HDX : Hid _ := hdx
      have step : ∀ (w' : World) (v' : Value), w'.ownsRow W.heap.size 42 4 v' (na + xs.length) (flY zs ++ flY xs) → wr.grownBy w' (Value.slice aa na ca).ownBlock → ∃ a' c', v' = .slice a' (na + xs.length) c' ∧ Hid ((zs ++ xs).length = na + xs.length) ∧ w'.ownsRow W.heap.size 42 4 (.slice a' (na + xs.length) c') (na + xs.length) (flY (zs ++ xs)) ∧ Hid ((zs ++ xs).map (fun y => absF y.1) = (Ts.take (j + 1)).flatten) ∧ (∀ y, y ∈ zs ++ xs → Ans w' 0 y.1.a y.1.n y.2 y.1.D ∧ ∀ x, (Value.slice y.1.a y.1.n y.2).ownBlock = some x → x < W.heap.size) ∧ Frm (fun _ => False) W w' := by
        intro w' v' ho hg
        have hbs : ∀ x, (Value.slice aa na ca).ownBlock = some x → W.heap.size ≤ x := fun x hx => by
          rcases hzo.2 with ⟨e, _⟩ | ⟨g, cap, cur, e, h1, _⟩
          · rw [e] at hx; cases hx
          · rw [e] at hx
            have e2 : g = x := Option.some.inj hx
            omega
        have Fg : Frm (fun x => (Value.slice aa na ca).ownBlock = some x) wr w' := Frm.of hg (fun k e _ => e)
        obtain ⟨a', c', rfl⟩ : ∃ a' c', v' = .slice a' (na + xs.length) c' := by
          rcases ho.2 with ⟨rfl, e⟩ | ⟨g, cap, cur, rfl, _⟩
          · rw [e]; exact ⟨_, _, rfl⟩
          · exact ⟨_, _, rfl⟩
        have hfz : flY zs ++ flY xs = flY (zs ++ xs) := by unfold flY; rw [List.flatMap_append]
        rw [hfz] at ho
        refine ⟨a', c', rfl, (show _ = _ by rw [List.length_append, HZL.out]), ho, (show _ = _ by rw [HTT.out, List.map_append, HZM.out, HXR.out]), fun y hy => ?_, Fr.trans Fg (fun k hk h => by have := hbs k h; omega)⟩
        rcases List.mem_append.1 hy with h | h
        · obtain ⟨h1, h2⟩ := hzd y h
          exact ⟨h1.frm Fg (fun x hx hp => by have := h2 x hx; have := hbs x hp; omega), h2⟩
        · have h1 := HDX.out y h
          have h2 : ∀ x, (Value.slice y.1.a y.1.n y.2).ownBlock = some x → x < W.heap.size := fun x hx => (row_lt h1.own hx).1
          exact ⟨((h1.frm Fr (fun _ _ h => h)).frm Fg (fun x hx hp => by have := h2 x hx; have := hbs x hp; omega)).wide (Nat.zero_le _), h2⟩
      have HST : Hid _ := step
      have HVJ : Hid _ := hVj
      have HTJ : Hid _ := hTj
      have HFR : Hid _ := Fr
      have HZD : Hid _ := hzd
      have HXD : Hid _ := hxd
      clear step hVj hTj Fr hzd hxd hdx hxm htk hone
      refine wp_seq_k fun K20 hK20 => ?_
      have HK20 : Hid _ := hK20
      clear hK20
      refine wp_seq_k fun K21 hK21 => ?_
      have HK21 : Hid _ := hK21
      clear hK21
      go_wp2
      (try simp only [Exit.inBlock, Exit.then])
      refine HK21.out _ _ ?_
      clear HK21
      go_wp2
      (try simp only [Exit.inBlock, Exit.then])
      refine HK20.out _ _ ?_
      clear HK20
      refine wp_seq_k fun K22 hK22 => ?_
      have HK22 : Hid _ := hK22
      clear hK22
      refine wp_block ?_
      have fin : ∀ (w' : World) (v' : Value), w'.ownsRow W.heap.size 42 4 v' (na + xs.length) (flY zs ++ flY xs) → wr.grownBy w' (Value.slice aa na ca).ownBlock → True := fun _ _ _ _ => trivial
      clear fin
      rcases hxow.2 with ⟨hnil, hl0⟩ | ⟨gx, capx, curx, hsx, _⟩
      · simp only [Value.slice.injEq] at hnil
        obtain ⟨rfl, _, rfl⟩ := hnil
        have hx0 : xs = [] := List.eq_nil_of_length_eq_zero hl0
        subst hx0
        go_wp2_with (at_builtin; refine wpList_append_own_none rfl _ _ _ rfl W.heap.size 42 i0 4 Try.underlying33 hi (.slice aa na ca) na (flY zs) rfl hzo rfl ?_; obtain ⟨a', c', hv', H1, H2, H3, H4, H5⟩ := HST.out wr (.slice aa na ca) (by simpa [flY] using hzo) (World.grownBy.refl _ _); cases hv'; have HH1 : Hid _ := H2; have HH2 : Hid _ := H4; have HH3 : Hid _ := H5; clear H2 H4 H5)
        (try simp only [Exit.inBlock, Exit.then])
        refine HK22.out _ _ ?_
        clear HK22
        go_wp2
        go_roundw
        case rel => exact ⟨j + 1, _, _, _, zs ++ [], rfl, by go_num, by omega, H1, HH1.out, H3, HH2.out, HH3.out⟩
        case measure => simp [intOf]; omega
      · simp only [Value.slice.injEq, true_and] at hsx
        obtain ⟨rfl, rfl⟩ := hsx
        have hcl : ∀ q u, (flY xs)[q]? = some u → wr.cell? ((⟨gx, 0, none⟩ : Addr).add q) = some u := fun q u hu => hxow.cells (g := gx) rfl q u hu
        have HCL : Hid _ := hcl
        clear hcl
        go_wp2_with (at_builtin; refine wpList_append_own_wide wr rfl _ _ _ rfl W.heap.size 42 i0 (.agg #[.int .i64 0, .bool false, .int .i64 0, .slice none 0 0]) 4 48 Try.underlying33 hi hz0 hz1 hz2 rfl (by decide) (.slice aa na ca) na (flY zs) rfl hzo ⟨gx, 0, none⟩ xs.length cx (flY xs) rfl hfl HCL.out HHO.out (by unfold maxLen; omega) (by omega) hzs ?_; intro v' w' hown hgr _; obtain ⟨a', c', rfl, H1, H2, H3, H4, H5⟩ := HST.out w' v' hown hgr; have HH1 : Hid _ := H2; have HH2 : Hid _ := H4; have HH3 : Hid _ := H5; clear H2 H4 H5 hown hgr)
        (try simp only [Exit.inBlock, Exit.then])
        refine HK22.out _ _ ?_
        clear HK22
        go_wp2
        go_roundw
        case rel => exact ⟨j + 1, _, _, _, zs ++ xs, rfl, by go_num, by omega, H1, HH1.out, H3, HH2.out, HH3.out⟩
        case measure => simp [intOf]; omega
    · obtain rfl : j = K := by omega
      have hge : ¬ ((j : Int) < (j : Int)) := by omega
      have htl : Ts.take j = Ts := List.take_of_length_le (by rw [HTK.out]; exact Nat.le_refl _)
      have hzm := HZM.out
      rw [htl] at hzm
      have hnn : na = n := by
        have h2 := congrArg List.length hzm
        rw [List.length_map, HZL.out, HNF.out] at h2
        exact h2
      subst hnn
      have HH : Hid _ := hzm
      have HF : Hid _ := F0.trans Fr (fun _ _ h => h)
      have HFR : Hid _ := Fr
      have HZD : Hid _ := hzd
      clear hzm Fr hzd htl
      go_wp2
      (try simp only [Exit.inBlock, Exit.then])
      refine HK20.out _ _ ?_
      clear HK20
      exact cu_24 w0 wr p4 q4 na ca cv _ _ aa av ys zs (cell_frm k4 HFR.out (fun h => h)) hn (own_base' hzo) (row_frm hy HFR.out (fun _ _ h => h)) HZL.out HYL.out (fun y h => (HZD.out y h).1) (fun y h => (hyd y h).frm HFR.out (fun _ _ h => h)) (HH.out.trans HE.out.symm) HF.out
end Go.Proofs.Ythdjpbfknbafgaa
