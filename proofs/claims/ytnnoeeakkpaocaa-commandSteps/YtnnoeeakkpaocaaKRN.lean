import Derived.Test.YtnnoeeakkpaocaaKRM
import Derived.Test.YtnnoeeakkpaocaaKTM
import Derived.Test.YtnnoeeakkpaocaaZSub
namespace Go.Proofs.Ytnnoeeakkpaocaa
open Go.RowKit
set_option maxRecDepth 100000
set_option linter.unusedVariables false
set_option linter.unusedSimpArgs false

def slN : Value → Nat
  | .slice _ n _ => n
  | _ => 0
theorem drop_one (R : List (List Nat)) (k : Nat) : (R.drop k).drop 1 = R.drop (k + 1) := by rw [List.drop_drop]
theorem DW.front {lo : Nat} {w : World} {g : Nat} {d : Hd} {Z : Hx} {rs qs : List Rw} {oa : Option Addr} {on oc : Nat} {os : List Rw} {U : List (List Nat)} (h : DW lo w g d Z rs qs oa on oc os U) (hq : 0 < Z.qn) : ∃ gq oq r, Z.qa = some ⟨gq, oq, none⟩ ∧ qs[0]? = some r := by
  rcases h.q.at' with ⟨_, h0, _⟩ | ⟨g, o, cur, e, _⟩
  · omega
  · exact ⟨g, o, _, e, List.getElem?_eq_getElem (by have := h.q.len; omega)⟩
theorem RO.fcell {lo : Nat} {w : World} {a : Option Addr} {n c : Nat} {qs : List Rw} (h : RO w lo a n c qs) {gq oq : Nat} {r : Rw} (e : a = some ⟨gq, oq, none⟩) (hr : qs[0]? = some r) : w.cell? ⟨gq, oq, none⟩ = some (.slice r.a r.n r.c) := by
  rcases h.at' with ⟨h0, _⟩ | ⟨g, o, cur, e', _, hh, _, hc⟩
  · rw [h0] at e; cases e
  · rw [e'] at e
    cases e
    rw [cell_of_row _ _ _ _ _ _ hh]
    exact hc 0 (.slice r.a r.n r.c) (by simp only [flatR, List.getElem?_map, hr]; rfl)
theorem RO.own' {lo : Nat} {w w' : World} {a b : Option Addr} {n c m e : Nat} {rs qs : List Rw} {rr : Option Nat} (h : RO w lo a n c rs) (k : RO w lo b m e qs) (ap : ∀ y, Hb a y → ¬ Hb b y) (hg : w.grownBy w' rr) (h1 : ∀ y, rr = some y → Hb a y) : RO w' lo b m e qs :=
  k.kept hg (fun y e' hy => ap y (h1 y e') hy) (fun y e' => by
    obtain ⟨_, _, cs, hb⟩ := h.hlo (h1 y e')
    exact ⟨_, cs, hb, by decide⟩)
/-- the document's end of a tick -/
def sfD (d : Hd) (wt : Bool) : Hd := if wt = true then d else snD d
def sfU (d : Hd) (wt : Bool) : List (List Nat) := if wt = true then [] else snU d
set_option maxHeartbeats 64000000 in
theorem so_t39 {u0 u1 u2 u4 u5 u7 u8 u10 u11 u12 u13 u15 u16 u17 u18 u19 u20 u21 u22 u23 u24 u25 u26 u27 u28 u29 u30 u31 u32 u33 u34 u35 u36 u37 u38 u39 u40 u41 u42 u43 u44 u45 u46 u47 u48 u49 u50 u51 u52 u53 u54 u55 u56 u57 u58 u59 u60 u61 u62 u63 u64 u65 u66 u67 u68 u69 u70 u71 u72 u73 u74 u75 u76 u77 u78 u79 u80 u81 u82 u83 u84 u85 u86 u87 u88 u89 u90 u91 u92 u93 u94 u95 u96 u97 u98 u99 u100 u101 u102 u103 u104 u105 u106 u107 u108 u109 u110 u111 u112 u113 u114 u115 u116 u117 u118 u119 u120 u121 u122 u123 u124 u125 u126 u127 u128 u129 u130 u131 u132 u133 u134 u135 u136 u137 u138 u139 u140 u141 u142 u143 u144 u145 u146 u147 u148 u149 u150 u151 u152 u153 u154 u155 u156 u157 u158 u159 u160 u161 u162 u163 u164 u165 u166 u167 u168 u169 u170 u171 u172 u173 u174 u175 u176 u177 u178 u179 u180 u181 u182 u183 u184 u185 u186 u187 u188 u189 u190 u191 u192 u193 u194 : Value} (w wz : World) (lo g3 g6 : Nat) (d : Hd) (Z : Hx) (rs qs : List Rw) (oa : Option Addr) (on oc : Nat) (os : List Rw) (U : List (List Nat)) (wt : Bool) (h : DW lo wz g3 d Z rs qs oa on oc os U) (b6 : BxS wz g6 50 #[.int .i64 0, .int .i64 0, .int .i64 0, .slice none 0 0, .slice none 0 0, .int .i64 0, .int .i64 0, .int .i64 0, .int .i64 0, .int .i64 0, .int .i64 0, .int .i64 0]) (h36 : g3 < g6 ∧ g6 < lo) (hw3 : w.heap.size ≤ g3) (G : w.grownBy wz none) (hk : Hk d) (hon : on ≤ 500) :
    Code.wp Try.prog (tailR 39 (Try.f38.body.getD .skip)) (bodyPost Try.prog Try.f38 (fun e w' => ∃ (P1 : Hx) (xa : Option Addr) (xn xc : Nat), e = .returned (.tuple #[.agg #[.int .i64 (sfD d wt).cr, .int .i64 (sfD d wt).nx, .int .i64 (sfD d wt).ah, .slice P1.sa P1.sn P1.sc, .slice P1.qa P1.qn P1.qc, .int .i64 (sfD d wt).ti, .int .i64 (sfD d wt).pa, .int .i64 (sfD d wt).tr, .int .i64 (sfD d wt).li, .int .i64 (sfD d wt).si, .int .i64 (sfD d wt).pu, .int .i64 (sfD d wt).hl], .slice xa xn xc, .int .i64 0]) ∧ RdHd w' P1 (sfD d wt) ∧ RdW w' xa xn xc (U ++ sfU d wt) ∧ w.grownBy w' none)) (Act.mk (List.toArray (u0 :: u1 :: u2 :: (.pointer (some ⟨g3, 0, none⟩)) :: u4 :: u5 :: (.pointer (some ⟨g6, 0, none⟩)) :: u7 :: u8 :: (.bool wt) :: u10 :: u11 :: u12 :: u13 :: (.slice oa on oc) :: u15 :: u16 :: u17 :: u18 :: u19 :: u20 :: u21 :: u22 :: u23 :: u24 :: u25 :: u26 :: u27 :: u28 :: u29 :: u30 :: u31 :: u32 :: u33 :: u34 :: u35 :: u36 :: u37 :: u38 :: u39 :: u40 :: u41 :: u42 :: u43 :: u44 :: u45 :: u46 :: u47 :: u48 :: u49 :: u50 :: u51 :: u52 :: u53 :: u54 :: u55 :: u56 :: u57 :: u58 :: u59 :: u60 :: u61 :: u62 :: u63 :: u64 :: u65 :: u66 :: u67 :: u68 :: u69 :: u70 :: u71 :: u72 :: u73 :: u74 :: u75 :: u76 :: u77 :: u78 :: u79 :: u80 :: u81 :: u82 :: u83 :: u84 :: u85 :: u86 :: u87 :: u88 :: u89 :: u90 :: u91 :: u92 :: u93 :: u94 :: u95 :: u96 :: u97 :: u98 :: u99 :: u100 :: u101 :: u102 :: u103 :: u104 :: u105 :: u106 :: u107 :: u108 :: u109 :: u110 :: u111 :: u112 :: u113 :: u114 :: u115 :: u116 :: u117 :: u118 :: u119 :: u120 :: u121 :: u122 :: u123 :: u124 :: u125 :: u126 :: u127 :: u128 :: u129 :: u130 :: u131 :: u132 :: u133 :: u134 :: u135 :: u136 :: u137 :: u138 :: u139 :: u140 :: u141 :: u142 :: u143 :: u144 :: u145 :: u146 :: u147 :: u148 :: u149 :: u150 :: u151 :: u152 :: u153 :: u154 :: u155 :: u156 :: u157 :: u158 :: u159 :: u160 :: u161 :: u162 :: u163 :: u164 :: u165 :: u166 :: u167 :: u168 :: u169 :: u170 :: u171 :: u172 :: u173 :: u174 :: u175 :: u176 :: u177 :: u178 :: u179 :: u180 :: u181 :: u182 :: u183 :: u184 :: u185 :: u186 :: u187 :: u188 :: u189 :: u190 :: u191 :: u192 :: u193 :: u194 :: [])) []) wz := by
  let pq : Exit → Act → World → Prop := bodyPost Try.prog Try.f38 (fun _ _ => True)
  conv => enter [2]; whnf
  have i12 := Try.info_hn3
  cases wt
  · have HD : Hid (sfD d false = snD d) := rfl
    have HU : Hid (sfU d false = snU d) := rfl
    obtain ⟨n, hn⟩ : ∃ n : Nat, snK d = n := ⟨_, rfl⟩
    have hnS := hk.ah
    have hnq := hk.q
    have hnn : n = min (d.ah - (d.S.length : Int)).toNat d.Q.length := by rw [← hn]; rfl
    have HN : Hid (snK d = n) := hn
    have HNN : Hid (n = min (d.ah - (d.S.length : Int)).toNat d.Q.length) := hnn
    clear hn hnn
    go_wp2
    go_loopw [14] (fun ov wr => ∃ (k : Nat) (Z' : Hx) (rs' qs' : List Rw) (oa' : Option Addr) (oc' : Nat) (os' : List Rw), ov = .slice oa' (on + k) oc' ∧ k ≤ n ∧ DW lo wr g3 ⟨d.cr, (d.nx + (k : Int)) % 256, d.ah, d.ti, d.pa, d.tr, d.li, d.si, d.pu, d.hl, d.S ++ d.Q.take k, d.Q.drop k⟩ Z' rs' qs' oa' (on + k) oc' os' (U ++ upL d.cr.toNat d.nx (d.Q.take k)) ∧ BxS wr g6 50 #[.int .i64 0, .int .i64 0, .int .i64 0, .slice none 0 0, .slice none 0 0, .int .i64 0, .int .i64 0, .int .i64 0, .int .i64 0, .int .i64 0, .int .i64 0, .int .i64 0] ∧ w.grownBy wr none) (fun ov _ => on + n - slN ov)
    case atStart =>
      refine ⟨0, Z, rs, qs, oa, oc, os, rfl, Nat.zero_le _, ?_, b6, G⟩
      rw [List.take_zero, List.drop_zero, List.append_nil, show (d.nx + ((0 : Nat) : Int)) % 256 = d.nx by have := hk.nx; omega]
      rw [show U ++ upL d.cr.toNat d.nx [] = U from by simp [upL]]
      exact h
    case round =>
      obtain ⟨k, Z', rs', qs', oa', oc', os', rfl, hkn, hr, b6r, Gr⟩ := hrel
      have lS := hr.lS
      have lQ := hr.lQ
      have lU := hr.lU
      rw [List.length_append, List.length_take] at lS
      rw [List.length_drop] at lQ
      have bx := hr.box
      dsimp only at bx
      have hnn := HNN.out
      by_cases hlt : k < n
      · have hs1 : ((Z'.sn : Int) < d.ah) := by omega
        have hq1 : ((0 : Int) < (Z'.qn : Int)) := by omega
        have hkQ : k < d.Q.length := by omega
        clear hnn
        obtain ⟨gq, oq, r, eq, hr0⟩ := hr.front (by omega)
        have hrm : r ∈ qs' := List.mem_of_getElem? hr0
        have eD : r.D = d.Q.getD k [] := by
          have e1 : (qs'.map Rw.D)[0]? = some r.D := by rw [List.getElem?_map, hr0]; rfl
          rw [hr.eQ, List.getElem?_drop] at e1
          rw [List.getD_eq_getElem?_getD]
          show r.D = ((d.Q[k + 0]?).getD [])
          rw [e1]; rfl
        have hFk := hk.fQ k (by omega)
        rw [← eD, (hr.q.each r hrm).len] at hFk
        obtain ⟨sq, hsq'⟩ : ∃ sq : Nat, (d.nx + (k : Int)) % 256 = (sq : Int) := ⟨((d.nx + (k : Int)) % 256).toNat, by omega⟩
        have hsq2 : sq < 256 := by omega
        have HD' : Hid (r.D = d.Q.getD k []) := eD
        have HSQ : Hid ((d.nx + (k : Int)) % 256 = (sq : Int)) := hsq'
        have HSN : Hid (((sq : Int) + 1) % 256 = (d.nx + ((k + 1 : Nat) : Int)) % 256) := by show _ = _; omega
        rw [hsq'] at hr bx
        rw [eq] at bx
        have kU := fun wz (hR : Rd wz r.a r.n r.c r.D) => rup_any ⟨Z'.sa, Z'.sn, Z'.sc, some ⟨gq, oq, none⟩, Z'.qn, Z'.qc⟩ ⟨d.cr, (sq : Int), d.ah, d.ti, d.pa, d.tr, d.li, d.si, d.pu, d.hl, d.S ++ d.Q.take k, d.Q.drop k⟩ (sq : Int) r.a r.n r.c r.D wz hR hk.cr ⟨by omega, by omega⟩ hFk
        dsimp only at kU
        have esq : (sq : Int) % 256 = (sq : Int) := by omega
        rw [esq, Int.toNat_natCast] at kU
        clear eD hsq' esq
        have HEQ : Hid (Z'.qa = some ⟨gq, oq, none⟩) := eq
        clear eq
        have hrd := hr.keep (grown_drew wr none)
        have b6d := b6r.keep (grown_drew wr none) (by simp)
        have Gd := grown_trans Gr (grown_drew wr none)
        have SS : BxS wr.drew g3 50 #[.int .i64 d.cr, .int .i64 (sq : Int), .int .i64 d.ah, .slice Z'.sa Z'.sn Z'.sc, .slice (some ⟨gq, oq, none⟩) Z'.qn Z'.qc, .int .i64 d.ti, .int .i64 d.pa, .int .i64 d.tr, .int .i64 d.li, .int .i64 d.si, .int .i64 d.pu, .int .i64 d.hl] ∧ wr.drew.cell? ⟨gq, oq, none⟩ = some (.slice r.a r.n r.c) := ⟨bx.keep (grown_drew wr none) (by simp), hrd.q.fcell HEQ.out hr0⟩
        obtain ⟨v0, v1, v2, v3, v4, v5, v6, v7, v8, v9, v10, v11⟩ := bx.cell12
        go_wp2
        refine wp_regionL (fun wz => BxS wz g3 50 #[.int .i64 d.cr, .int .i64 (sq : Int), .int .i64 d.ah, .slice Z'.sa Z'.sn Z'.sc, .slice (some ⟨gq, oq, none⟩) Z'.qn Z'.qc, .int .i64 d.ti, .int .i64 d.pa, .int .i64 d.tr, .int .i64 d.li, .int .i64 d.si, .int .i64 d.pu, .int .i64 d.hl] ∧ wz.cell? ⟨gq, oq, none⟩ = some (.slice r.a r.n r.c)) [] #[false, false, false, false, false, false, false, false, false, false, false, false] rfl (by kernel_rfl) ?_
        refine wpAnyZ_take [] 0 (.slice oa' (on + k) oc') rfl (by kernel_rfl) (fun _ _ _ h => h) SS rfl (by rintro wz ⟨hz, hcl⟩; obtain ⟨z0, z1, z2, z3, z4, z5, z6, z7, z8, z9, z10, z11⟩ := hz.cell12; go_simp) ?_
        try simp only [List.getElem_toArray, List.getElem_cons_succ, List.getElem_cons_zero, Act.put, List.setIfInBounds_toArray, List.set_cons_zero, List.set_cons_succ]
        refine wpAnyZ_take [] 1 (.agg #[.int .i64 d.cr, .int .i64 (sq : Int), .int .i64 d.ah, .slice Z'.sa Z'.sn Z'.sc, .slice (some ⟨gq, oq, none⟩) Z'.qn Z'.qc, .int .i64 d.ti, .int .i64 d.pa, .int .i64 d.tr, .int .i64 d.li, .int .i64 d.si, .int .i64 d.pu, .int .i64 d.hl]) rfl (by kernel_rfl) (fun _ _ _ h => h) SS rfl (by rintro wz ⟨hz, hcl⟩; obtain ⟨z0, z1, z2, z3, z4, z5, z6, z7, z8, z9, z10, z11⟩ := hz.cell12; go_simp) ?_
        try simp only [List.getElem_toArray, List.getElem_cons_succ, List.getElem_cons_zero, Act.put, List.setIfInBounds_toArray, List.set_cons_zero, List.set_cons_succ]
        refine wpAnyZ_take [] 2 (.pointer (some ⟨g3, 1, none⟩)) rfl (by kernel_rfl) (fun _ _ _ h => h) SS rfl (by rintro wz ⟨hz, hcl⟩; obtain ⟨z0, z1, z2, z3, z4, z5, z6, z7, z8, z9, z10, z11⟩ := hz.cell12; go_simp) ?_
        try simp only [List.getElem_toArray, List.getElem_cons_succ, List.getElem_cons_zero, Act.put, List.setIfInBounds_toArray, List.set_cons_zero, List.set_cons_succ]
        refine wpAnyZ_take [] 3 (.int .i64 (sq : Int)) rfl (by kernel_rfl) (fun _ _ _ h => h) SS rfl (by rintro wz ⟨hz, hcl⟩; obtain ⟨z0, z1, z2, z3, z4, z5, z6, z7, z8, z9, z10, z11⟩ := hz.cell12; go_simp) ?_
        try simp only [List.getElem_toArray, List.getElem_cons_succ, List.getElem_cons_zero, Act.put, List.setIfInBounds_toArray, List.set_cons_zero, List.set_cons_succ]
        refine wpAnyZ_take [] 4 (.pointer (some ⟨g3, 4, none⟩)) rfl (by kernel_rfl) (fun _ _ _ h => h) SS rfl (by rintro wz ⟨hz, hcl⟩; obtain ⟨z0, z1, z2, z3, z4, z5, z6, z7, z8, z9, z10, z11⟩ := hz.cell12; go_simp) ?_
        try simp only [List.getElem_toArray, List.getElem_cons_succ, List.getElem_cons_zero, Act.put, List.setIfInBounds_toArray, List.set_cons_zero, List.set_cons_succ]
        refine wpAnyZ_take [] 5 (.slice (some ⟨gq, oq, none⟩) Z'.qn Z'.qc) rfl (by kernel_rfl) (fun _ _ _ h => h) SS rfl (by rintro wz ⟨hz, hcl⟩; obtain ⟨z0, z1, z2, z3, z4, z5, z6, z7, z8, z9, z10, z11⟩ := hz.cell12; go_simp) ?_
        try simp only [List.getElem_toArray, List.getElem_cons_succ, List.getElem_cons_zero, Act.put, List.setIfInBounds_toArray, List.set_cons_zero, List.set_cons_succ]
        refine wpAnyZ_take [] 6 (.pointer (some ⟨gq, oq, none⟩)) rfl (by kernel_rfl) (fun _ _ _ h => h) SS rfl (by rintro wz ⟨hz, hcl⟩; obtain ⟨z0, z1, z2, z3, z4, z5, z6, z7, z8, z9, z10, z11⟩ := hz.cell12; go_simp) ?_
        try simp only [List.getElem_toArray, List.getElem_cons_succ, List.getElem_cons_zero, Act.put, List.setIfInBounds_toArray, List.set_cons_zero, List.set_cons_succ]
        refine wpAnyZ_take [] 7 (.slice r.a r.n r.c) rfl (by kernel_rfl) (fun _ _ _ h => h) SS rfl (by rintro wz ⟨hz, hcl⟩; obtain ⟨z0, z1, z2, z3, z4, z5, z6, z7, z8, z9, z10, z11⟩ := hz.cell12; go_simp) ?_
        try simp only [List.getElem_toArray, List.getElem_cons_succ, List.getElem_cons_zero, Act.put, List.setIfInBounds_toArray, List.set_cons_zero, List.set_cons_succ]
        refine wpAnyZ_oneB 8 rfl (by kernel_rfl) (fun K hK => ?_)
        go_simp
        go_at_call 72
        refine (kU _ (hrd.q.each r hrm).rd).mono ?_
        rintro e w4 ⟨a4, n4, c4, rfl, hA4, y4⟩
        dsimp only
        have hr4 := hrd.keep y4
        have SS : BxS w4 g3 50 #[.int .i64 d.cr, .int .i64 (sq : Int), .int .i64 d.ah, .slice Z'.sa Z'.sn Z'.sc, .slice (some ⟨gq, oq, none⟩) Z'.qn Z'.qc, .int .i64 d.ti, .int .i64 d.pa, .int .i64 d.tr, .int .i64 d.li, .int .i64 d.si, .int .i64 d.pu, .int .i64 d.hl] ∧ w4.cell? ⟨gq, oq, none⟩ = some (.slice r.a r.n r.c) := ⟨SS.1.keep y4 (by simp), hr4.q.fcell HEQ.out hr0⟩
        refine hK _ _ (fun _ => SS) ?_
        try simp only [List.getElem_toArray, List.getElem_cons_succ, List.getElem_cons_zero, Act.put, List.setIfInBounds_toArray, List.set_cons_zero, List.set_cons_succ]
        refine wpAnyZ_oneB 9 rfl (by kernel_rfl) (fun K hK => ?_)
        go_simp
        have yA := World.grownBy_alloc w4 (.cells #[.slice a4 n4 c4] 22) none
        have cA : (w4.alloc (.cells #[.slice a4 n4 c4] 22)).cell? ⟨w4.heap.size, 0, none⟩ = some (.slice a4 n4 c4) := (BxS.new w4 22 #[.slice a4 n4 c4]).cell 0 (by show 0 < 1; decide)
        have hr5 := hr4.keep yA
        have hA5 := (hA4.wide hrd.ll).keep yA
        have SS : BxS (w4.alloc (.cells #[.slice a4 n4 c4] 22)) g3 50 #[.int .i64 d.cr, .int .i64 (sq : Int), .int .i64 d.ah, .slice Z'.sa Z'.sn Z'.sc, .slice (some ⟨gq, oq, none⟩) Z'.qn Z'.qc, .int .i64 d.ti, .int .i64 d.pa, .int .i64 d.tr, .int .i64 d.li, .int .i64 d.si, .int .i64 d.pu, .int .i64 d.hl] ∧ (w4.alloc (.cells #[.slice a4 n4 c4] 22)).cell? ⟨gq, oq, none⟩ = some (.slice r.a r.n r.c) := ⟨SS.1.keep yA (by simp), hr5.q.fcell HEQ.out hr0⟩
        have Y5 := grown_trans (grown_trans (grown_drew wr none) y4) yA
        have b65 := b6r.keep Y5 (by simp)
        have G5 := grown_trans Gr Y5
        refine hK _ _ (fun _ => SS) ?_
        try simp only [List.getElem_toArray, List.getElem_cons_succ, List.getElem_cons_zero, Act.put, List.setIfInBounds_toArray, List.set_cons_zero, List.set_cons_succ]
        generalize w4.alloc (.cells #[.slice a4 n4 c4] 22) = w5 at *
        refine wpAnyZ_oneB 10 rfl (by kernel_rfl) (fun K hK => ?_)
        refine step_psRO _ rfl _ _ rfl oa' (on + k) oc' lo os' rfl hr5.o hr5.ll (Rw.mk a4 n4 c4 (orL d.cr.toNat false false sq r.D)) w4.heap.size hA5 cA rfl (by omega) ?_
        intro a6 c6 w6 rr ho6 y6 h61 h62
        have hr6 := hr5.push ho6 y6 h61 h62
        have b66 := b65.keep y6 (fun e => by have := (hr5.o.hlo (h61 g6 e.symm)).1; omega)
        have G6 := grown_far G5 y6 (fun q e => by have := (hr5.o.hlo (h61 q e)).1; have := hr5.gl; omega)
        have SS : BxS w6 g3 50 #[.int .i64 d.cr, .int .i64 (sq : Int), .int .i64 d.ah, .slice Z'.sa Z'.sn Z'.sc, .slice (some ⟨gq, oq, none⟩) Z'.qn Z'.qc, .int .i64 d.ti, .int .i64 d.pa, .int .i64 d.tr, .int .i64 d.li, .int .i64 d.si, .int .i64 d.pu, .int .i64 d.hl] ∧ w6.cell? ⟨gq, oq, none⟩ = some (.slice r.a r.n r.c) := ⟨by have := hr6.box; dsimp only at this; rw [HEQ.out] at this; exact this, hr6.q.fcell HEQ.out hr0⟩
        refine hK _ _ (fun _ => SS) ?_
        try simp only [List.getElem_toArray, List.getElem_cons_succ, List.getElem_cons_zero, Act.put, List.setIfInBounds_toArray, List.set_cons_zero, List.set_cons_succ]
        refine wpAnyZ_take [] 11 (.slice a6 (on + k + 1) c6) rfl (by kernel_rfl) (fun _ _ _ h => h) SS rfl (by rintro wz ⟨hz, hcl⟩; obtain ⟨z0, z1, z2, z3, z4, z5, z6, z7, z8, z9, z10, z11⟩ := hz.cell12; go_simp) ?_
        try simp only [List.getElem_toArray, List.getElem_cons_succ, List.getElem_cons_zero, Act.put, List.setIfInBounds_toArray, List.set_cons_zero, List.set_cons_succ]
        refine wpAnyZ_doneB (by kernel_rfl) ?_ _
        clear hrd hr4 hr5 hA4 hA5 cA b65 b6d b6r kU Y5 yA y4 Gd G5 Gr hr ho6 y6 h61 h62
        clear v0 v1 v2 v3 v4 v5 v6 v7 v8 v9 v10 v11
        have hr7 := hr6.keep (grown_drew w6 none)
        have b67 := b66.keep (grown_drew w6 none) (by simp)
        have G7 := grown_trans G6 (grown_drew w6 none)
        have SS : BxS w6.drew g3 50 #[.int .i64 d.cr, .int .i64 (sq : Int), .int .i64 d.ah, .slice Z'.sa Z'.sn Z'.sc, .slice (some ⟨gq, oq, none⟩) Z'.qn Z'.qc, .int .i64 d.ti, .int .i64 d.pa, .int .i64 d.tr, .int .i64 d.li, .int .i64 d.si, .int .i64 d.pu, .int .i64 d.hl] ∧ w6.drew.cell? ⟨gq, oq, none⟩ = some (.slice r.a r.n r.c) := ⟨SS.1.keep (grown_drew w6 none) (by simp), hr7.q.fcell HEQ.out hr0⟩
        go_wp2
        refine wp_regionL (fun wz => BxS wz g3 50 #[.int .i64 d.cr, .int .i64 (sq : Int), .int .i64 d.ah, .slice Z'.sa Z'.sn Z'.sc, .slice (some ⟨gq, oq, none⟩) Z'.qn Z'.qc, .int .i64 d.ti, .int .i64 d.pa, .int .i64 d.tr, .int .i64 d.li, .int .i64 d.si, .int .i64 d.pu, .int .i64 d.hl] ∧ wz.cell? ⟨gq, oq, none⟩ = some (.slice r.a r.n r.c)) [9] #[false, false, false, false, false, false, false, false, false, false] rfl (by kernel_rfl) ?_
        refine wpAnyZ_take [1, 7, 9] 0 (.pointer (some ⟨g3, 3, none⟩)) rfl (by kernel_rfl) (fun _ _ _ h => h) SS rfl (by rintro wz ⟨hz, hcl⟩; obtain ⟨z0, z1, z2, z3, z4, z5, z6, z7, z8, z9, z10, z11⟩ := hz.cell12; go_simp) ?_
        try simp only [List.getElem_toArray, List.getElem_cons_succ, List.getElem_cons_zero, Act.put, List.setIfInBounds_toArray, List.set_cons_zero, List.set_cons_succ]
        refine wpAnyZ_take [7, 9] 1 (.slice Z'.sa Z'.sn Z'.sc) rfl (by kernel_rfl) (fun _ _ _ h => h) SS rfl (by rintro wz ⟨hz, hcl⟩; obtain ⟨z0, z1, z2, z3, z4, z5, z6, z7, z8, z9, z10, z11⟩ := hz.cell12; go_simp) ?_
        try simp only [List.getElem_toArray, List.getElem_cons_succ, List.getElem_cons_zero, Act.put, List.setIfInBounds_toArray, List.set_cons_zero, List.set_cons_succ]
        refine wpAnyZ_take [3, 4, 5, 6, 7, 9] 2 (.pointer (some ⟨g3, 4, none⟩)) rfl (by kernel_rfl) (fun _ _ _ h => h) SS rfl (by rintro wz ⟨hz, hcl⟩; obtain ⟨z0, z1, z2, z3, z4, z5, z6, z7, z8, z9, z10, z11⟩ := hz.cell12; go_simp) ?_
        try simp only [List.getElem_toArray, List.getElem_cons_succ, List.getElem_cons_zero, Act.put, List.setIfInBounds_toArray, List.set_cons_zero, List.set_cons_succ]
        refine wpAnyZ_take [4, 5, 6, 7, 9] 3 (.slice (some ⟨gq, oq, none⟩) Z'.qn Z'.qc) rfl (by kernel_rfl) (fun _ _ _ h => h) SS rfl (by rintro wz ⟨hz, hcl⟩; obtain ⟨z0, z1, z2, z3, z4, z5, z6, z7, z8, z9, z10, z11⟩ := hz.cell12; go_simp) ?_
        try simp only [List.getElem_toArray, List.getElem_cons_succ, List.getElem_cons_zero, Act.put, List.setIfInBounds_toArray, List.set_cons_zero, List.set_cons_succ]
        refine wpAnyZ_take [5, 6, 7, 9] 4 (.pointer (some ⟨gq, oq, none⟩)) rfl (by kernel_rfl) (fun _ _ _ h => h) SS rfl (by rintro wz ⟨hz, hcl⟩; obtain ⟨z0, z1, z2, z3, z4, z5, z6, z7, z8, z9, z10, z11⟩ := hz.cell12; go_simp) ?_
        try simp only [List.getElem_toArray, List.getElem_cons_succ, List.getElem_cons_zero, Act.put, List.setIfInBounds_toArray, List.set_cons_zero, List.set_cons_succ]
        refine wpAnyZ_take [6, 7, 9] 5 (.slice r.a r.n r.c) rfl (by kernel_rfl) (fun _ _ _ h => h) SS rfl (by rintro wz ⟨hz, hcl⟩; obtain ⟨z0, z1, z2, z3, z4, z5, z6, z7, z8, z9, z10, z11⟩ := hz.cell12; go_simp) ?_
        try simp only [List.getElem_toArray, List.getElem_cons_succ, List.getElem_cons_zero, Act.put, List.setIfInBounds_toArray, List.set_cons_zero, List.set_cons_succ]
        generalize w6.drew = w7 at *
        refine wpAnyZ_oneB 6 rfl (by kernel_rfl) (fun K hK => ?_)
        go_simp
        have yA := World.grownBy_alloc w7 (.cells #[.slice r.a r.n r.c] 22) none
        have cA : (w7.alloc (.cells #[.slice r.a r.n r.c] 22)).cell? ⟨w7.heap.size, 0, none⟩ = some (.slice r.a r.n r.c) := (BxS.new w7 22 #[.slice r.a r.n r.c]).cell 0 (by show 0 < 1; decide)
        have hr8 := hr7.keep yA
        have SS : BxS (w7.alloc (.cells #[.slice r.a r.n r.c] 22)) g3 50 #[.int .i64 d.cr, .int .i64 (sq : Int), .int .i64 d.ah, .slice Z'.sa Z'.sn Z'.sc, .slice (some ⟨gq, oq, none⟩) Z'.qn Z'.qc, .int .i64 d.ti, .int .i64 d.pa, .int .i64 d.tr, .int .i64 d.li, .int .i64 d.si, .int .i64 d.pu, .int .i64 d.hl] ∧ (w7.alloc (.cells #[.slice r.a r.n r.c] 22)).cell? ⟨gq, oq, none⟩ = some (.slice r.a r.n r.c) := ⟨SS.1.keep yA (by simp), hr8.q.fcell HEQ.out hr0⟩
        have b68 := b67.keep yA (by simp)
        have G8 := grown_trans G7 yA
        refine hK _ _ (fun _ => SS) ?_
        try simp only [List.getElem_toArray, List.getElem_cons_succ, List.getElem_cons_zero, Act.put, List.setIfInBounds_toArray, List.set_cons_zero, List.set_cons_succ]
        generalize w7.alloc (.cells #[.slice r.a r.n r.c] 22) = w8 at *
        refine wpAnyZ_oneB 7 rfl (by kernel_rfl) (fun K hK => ?_)
        refine step_psRO _ rfl _ _ rfl Z'.sa Z'.sn Z'.sc lo rs' rfl hr8.s hr8.ll r w7.heap.size (hr8.q.each r hrm) cA rfl (by omega) ?_
        intro sa9 sc9 w9 rr ho9 y9 h91 h92
        have q9 := hr8.s.own' hr8.q hr8.sq y9 h91
        have b69 := b68.keep y9 (fun e => by have := (hr8.s.hlo (h91 g6 e.symm)).1; omega)
        have G9 := grown_far G8 y9 (fun q e => by have := (hr8.s.hlo (h91 q e)).1; have := hr8.gl; omega)
        have SS : BxS w9 g3 50 #[.int .i64 d.cr, .int .i64 (sq : Int), .int .i64 d.ah, .slice Z'.sa Z'.sn Z'.sc, .slice (some ⟨gq, oq, none⟩) Z'.qn Z'.qc, .int .i64 d.ti, .int .i64 d.pa, .int .i64 d.tr, .int .i64 d.li, .int .i64 d.si, .int .i64 d.pu, .int .i64 d.hl] ∧ w9.cell? ⟨gq, oq, none⟩ = some (.slice r.a r.n r.c) := ⟨SS.1.keep y9 (fun e => by have := (hr8.s.hlo (h91 g3 e.symm)).1; have := hr8.gl; omega), q9.fcell HEQ.out hr0⟩
        refine hK _ _ (fun _ => SS) ?_
        try simp only [List.getElem_toArray, List.getElem_cons_succ, List.getElem_cons_zero, Act.put, List.setIfInBounds_toArray, List.set_cons_zero, List.set_cons_succ]
        refine wpAnyZ_take [9] 8 (.pointer (some ⟨g3, 3, none⟩)) rfl (by kernel_rfl) (fun _ _ _ h => h) SS rfl (by rintro wz ⟨hz, hcl⟩; obtain ⟨z0, z1, z2, z3, z4, z5, z6, z7, z8, z9, z10, z11⟩ := hz.cell12; go_simp) ?_
        try simp only [List.getElem_toArray, List.getElem_cons_succ, List.getElem_cons_zero, Act.put, List.setIfInBounds_toArray, List.set_cons_zero, List.set_cons_succ]
        refine wpAnyZ_oneB 9 rfl (by kernel_rfl) (fun K hK => ?_)
        refine step_stC _ rfl _ _ _ rfl g3 3 50 _ #[.int .i64 d.cr, .int .i64 (sq : Int), .int .i64 d.ah, .slice sa9 (Z'.sn + 1) sc9, .slice (some ⟨gq, oq, none⟩) Z'.qn Z'.qc, .int .i64 d.ti, .int .i64 d.pa, .int .i64 d.tr, .int .i64 d.li, .int .i64 d.si, .int .i64 d.pu, .int .i64 d.hl] (.slice sa9 (Z'.sn + 1) sc9) rfl rfl SS.1 (stc_rows _ _ _ _ _) (by show 3 < 12; decide) rfl ?_
        intro w10 b10 u10
        have n63 : some g6 ≠ some g3 := fun e => by have e := Option.some.inj e; omega
        have b610 := b69.keep u10 n63
        have G10 := grown_far G9 u10 (fun q e => by have e := Option.some.inj e; omega)
        have hr10 := hr8.pushS ho9 y9 h91 h92 (by rw [HEQ.out]; exact b10) u10
        refine hK _ _ (fun h => absurd (by decide) h) ?_
        try simp only [List.getElem_toArray, List.getElem_cons_succ, List.getElem_cons_zero, Act.put, List.setIfInBounds_toArray, List.set_cons_zero, List.set_cons_succ]
        refine wpAnyZ_doneB (by kernel_rfl) ?_ _
        clear hr6 hr7 hr8 cA b66 b67 b68 b69 yA G6 G7 G8 G9 ho9 y9 h91 h92 q9
        have hx := hr10.q.max
        dsimp only at hx
        have hsl1 : (1 : Int) ≤ (Z'.qn : Int) := by omega
        have hsl2 : (Z'.qn : Int) ≤ (Z'.qc : Int) := by omega
        by_cases hc1 : Z'.qc = 1
        · rw [hc1] at b10
          obtain ⟨v0, v1, v2, v3, v4, v5, v6, v7, v8, v9, v10, v11⟩ := b10.cell12
          have s1 : True := trivial
          go_wp2_with (first
            | (have _t := s1; clear s1; refine wpList_stC _ rfl _ _ _ rfl g3 4 50 _ #[.int .i64 d.cr, .int .i64 (sq : Int), .int .i64 d.ah, .slice sa9 (Z'.sn + 1) sc9, .slice (some ⟨gq, oq, none⟩) (Z'.qn - 1) 0, .int .i64 d.ti, .int .i64 d.pa, .int .i64 d.tr, .int .i64 d.li, .int .i64 d.si, .int .i64 d.pu, .int .i64 d.hl] (.slice (some ⟨gq, oq, none⟩) (Z'.qn - 1) 0) rfl rfl b10 (stc_rows _ _ _ _ _) (by show 4 < 12; decide) rfl ?_; intro w11 b11 u11; clear v0 v1 v2 v3 v4 v5 v6 v7 v8 v9 v10 v11; obtain ⟨v0, v1, v2, v3, v4, v5, v6, v7, v8, v9, v10, v11⟩ := b11.cell12; have s2 : True := trivial)
            | (have _t := s2; clear s2; refine wpList_stC _ rfl _ _ _ rfl g3 1 50 _ #[.int .i64 d.cr, .int .i64 (((sq : Int) + 1) % 256), .int .i64 d.ah, .slice sa9 (Z'.sn + 1) sc9, .slice (some ⟨gq, oq, none⟩) (Z'.qn - 1) 0, .int .i64 d.ti, .int .i64 d.pa, .int .i64 d.tr, .int .i64 d.li, .int .i64 d.si, .int .i64 d.pu, .int .i64 d.hl] (.int .i64 (((sq : Int) + 1) % 256)) rfl rfl b11 (stc_int _ _ _) (by show 1 < 12; decide) rfl ?_; intro w12 b12 u12))
          have hQ10 := hr10.q
          dsimp only at hQ10
          rw [HEQ.out] at hQ10
          have hr11 := hr10.cutQ gq oq oq 0 1 HEQ.out (hQ10.tail0 1 (by show 1 ≤ Z'.qn; omega) hc1) b11 u11
          dsimp only at hr11
          have hr12 := hr11.setI ⟨d.cr, (((sq : Int) + 1) % 256), d.ah, d.ti, d.pa, d.tr, d.li, d.si, d.pu, d.hl, (d.S ++ d.Q.take k ++ [r.D]), ((d.Q.drop k).drop 1)⟩ rfl rfl b12 u12
          have b612 := (b610.keep u11 n63).keep u12 n63
          have G12 := grown_far (grown_far G10 u11 (fun q e => by have e := Option.some.inj e; omega)) u12 (fun q e => by have e := Option.some.inj e; omega)
          rw [HSN.out, drop_one, List.append_assoc d.S, HD'.out, ← take_one d.Q k (by omega)] at hr12
          have eu : U ++ upL d.cr.toNat d.nx (d.Q.take k) ++ [orL d.cr.toNat false false sq (d.Q.getD k [])] = U ++ upL d.cr.toNat d.nx (d.Q.take (k + 1)) := by
            rw [take_one d.Q k hkQ, upL_add, List.length_take, Nat.min_eq_left (by omega), ← List.append_assoc U]
            show _ = _ ++ [orL d.cr.toNat false false ((d.nx + (k : Int)) % 256).toNat (d.Q.getD k [])]
            rw [HSQ.out, Int.toNat_natCast]
          rw [eu] at hr12
          go_roundw
          case rel => exact ⟨k + 1, _, _, _, a6, c6, ⟨rfl, rfl, rfl⟩, by omega, ⟨_, hr12⟩, b612, G12⟩
          case measure => simp [slN]; omega
        · obtain ⟨v0, v1, v2, v3, v4, v5, v6, v7, v8, v9, v10, v11⟩ := b10.cell12
          have s1 : True := trivial
          go_wp2_with (first
            | (have _t := s1; clear s1; refine wpList_stC _ rfl _ _ _ rfl g3 4 50 _ #[.int .i64 d.cr, .int .i64 (sq : Int), .int .i64 d.ah, .slice sa9 (Z'.sn + 1) sc9, .slice (some ⟨gq, oq + 1, none⟩) (Z'.qn - 1) (Z'.qc - 1), .int .i64 d.ti, .int .i64 d.pa, .int .i64 d.tr, .int .i64 d.li, .int .i64 d.si, .int .i64 d.pu, .int .i64 d.hl] (.slice (some ⟨gq, oq + 1, none⟩) (Z'.qn - 1) (Z'.qc - 1)) rfl rfl b10 (stc_rows _ _ _ _ _) (by show 4 < 12; decide) rfl ?_; intro w11 b11 u11; clear v0 v1 v2 v3 v4 v5 v6 v7 v8 v9 v10 v11; obtain ⟨v0, v1, v2, v3, v4, v5, v6, v7, v8, v9, v10, v11⟩ := b11.cell12; have s2 : True := trivial)
            | (have _t := s2; clear s2; refine wpList_stC _ rfl _ _ _ rfl g3 1 50 _ #[.int .i64 d.cr, .int .i64 (((sq : Int) + 1) % 256), .int .i64 d.ah, .slice sa9 (Z'.sn + 1) sc9, .slice (some ⟨gq, oq + 1, none⟩) (Z'.qn - 1) (Z'.qc - 1), .int .i64 d.ti, .int .i64 d.pa, .int .i64 d.tr, .int .i64 d.li, .int .i64 d.si, .int .i64 d.pu, .int .i64 d.hl] (.int .i64 (((sq : Int) + 1) % 256)) rfl rfl b11 (stc_int _ _ _) (by show 1 < 12; decide) rfl ?_; intro w12 b12 u12))
          have hQ10 := hr10.q
          dsimp only at hQ10
          rw [HEQ.out] at hQ10
          have hr11 := hr10.cutQ gq oq (oq + 1) (Z'.qc - 1) 1 HEQ.out (hQ10.tail 1 (by show 1 ≤ Z'.qn; omega)) b11 u11
          dsimp only at hr11
          have hr12 := hr11.setI ⟨d.cr, (((sq : Int) + 1) % 256), d.ah, d.ti, d.pa, d.tr, d.li, d.si, d.pu, d.hl, (d.S ++ d.Q.take k ++ [r.D]), ((d.Q.drop k).drop 1)⟩ rfl rfl b12 u12
          have b612 := (b610.keep u11 n63).keep u12 n63
          have G12 := grown_far (grown_far G10 u11 (fun q e => by have e := Option.some.inj e; omega)) u12 (fun q e => by have e := Option.some.inj e; omega)
          rw [HSN.out, drop_one, List.append_assoc d.S, HD'.out, ← take_one d.Q k (by omega)] at hr12
          have eu : U ++ upL d.cr.toNat d.nx (d.Q.take k) ++ [orL d.cr.toNat false false sq (d.Q.getD k [])] = U ++ upL d.cr.toNat d.nx (d.Q.take (k + 1)) := by
            rw [take_one d.Q k hkQ, upL_add, List.length_take, Nat.min_eq_left (by omega), ← List.append_assoc U]
            show _ = _ ++ [orL d.cr.toNat false false ((d.nx + (k : Int)) % 256).toNat (d.Q.getD k [])]
            rw [HSQ.out, Int.toNat_natCast]
          rw [eu] at hr12
          go_roundw
          case rel => exact ⟨k + 1, _, _, _, a6, c6, ⟨rfl, rfl, rfl⟩, by omega, ⟨_, hr12⟩, b612, G12⟩
          case measure => simp [slN]; omega
      · obtain rfl : k = n := by omega
        have hx : ¬ ((Z'.sn : Int) < d.ah) ∨ (((Z'.sn : Int) < d.ah) ∧ ¬ ((0 : Int) < (Z'.qn : Int))) := by omega
        obtain ⟨v0, v1, v2, v3, v4, v5, v6, v7, v8, v9, v10, v11⟩ := bx.cell12
        have HF : Hid (snD d = ⟨d.cr, ((d.nx + (k : Int)) % 256), d.ah, d.ti, d.pa, d.tr, d.li, d.si, d.pu, d.hl, (d.S ++ d.Q.take k), (d.Q.drop k)⟩) := by show _ = _; unfold snD; rw [HN.out]
        have HG : Hid (snU d = upL d.cr.toNat d.nx (d.Q.take k)) := by show _ = _; unfold snU; rw [HN.out]
        clear hnn
        have s1 : True := trivial
        rcases hx with hx | ⟨hx, hx2⟩
        · go_wp2_with (have _t := s1; clear s1; refine wpList_stX _ rfl _ (.tmp 6) (.tmp 193) rfl g6 _ _ rfl rfl b6r i12 rfl (by simp [Value.oneCell']) ?_; intro w9 b9 u9)
          refine bodyPost_ret (results_cell3 rfl _ _ _ ⟨g6, 0, none⟩ _ (.slice oa' (on + k) oc') (.int .i64 0) rfl (BxS.load (t := 50) b9 Try.underlying50 i12) rfl rfl) rfl ?_
          have h9 := hr.far g6 _ b6r h36.2 (by omega) u9
          rw [HD.out, HU.out, HF.out, HG.out]
          exact ⟨Z', oa', on + k, oc', rfl, h9.rd.1, h9.rd.2, grown_far Gr u9 (fun q e => by have e := Option.some.inj e; omega)⟩
        · go_wp2_with (have _t := s1; clear s1; refine wpList_stX _ rfl _ (.tmp 6) (.tmp 193) rfl g6 _ _ rfl rfl b6r i12 rfl (by simp [Value.oneCell']) ?_; intro w9 b9 u9)
          refine bodyPost_ret (results_cell3 rfl _ _ _ ⟨g6, 0, none⟩ _ (.slice oa' (on + k) oc') (.int .i64 0) rfl (BxS.load (t := 50) b9 Try.underlying50 i12) rfl rfl) rfl ?_
          have h9 := hr.far g6 _ b6r h36.2 (by omega) u9
          rw [HD.out, HU.out, HF.out, HG.out]
          exact ⟨Z', oa', on + k, oc', rfl, h9.rd.1, h9.rd.2, grown_far Gr u9 (fun q e => by have e := Option.some.inj e; omega)⟩
  · have HD : Hid (sfD d true = d) := rfl
    have HU : Hid (sfU d true = []) := rfl
    go_wp2
    go_loopw [14] (fun ov wr => ov = .slice oa on oc ∧ DW lo wr g3 d Z rs qs oa on oc os U ∧ BxS wr g6 50 #[.int .i64 0, .int .i64 0, .int .i64 0, .slice none 0 0, .slice none 0 0, .int .i64 0, .int .i64 0, .int .i64 0, .int .i64 0, .int .i64 0, .int .i64 0, .int .i64 0] ∧ w.grownBy wr none) (fun _ _ => 0)
    case atStart => exact ⟨rfl, h, b6, G⟩
    case round =>
      obtain ⟨rfl, hr, b6r, Gr⟩ := hrel
      have bx := hr.box
      obtain ⟨v0, v1, v2, v3, v4, v5, v6, v7, v8, v9, v10, v11⟩ := bx.cell12
      have s1 : True := trivial
      go_wp2_with (have _t := s1; clear s1; refine wpList_stX _ rfl _ (.tmp 6) (.tmp 193) rfl g6 _ _ rfl rfl b6r i12 rfl (by simp [Value.oneCell']) ?_; intro w9 b9 u9)
      refine bodyPost_ret (results_cell3 rfl _ _ _ ⟨g6, 0, none⟩ _ (.slice oa on oc) (.int .i64 0) rfl (BxS.load (t := 50) b9 Try.underlying50 i12) rfl rfl) rfl ?_
      have h9 := hr.far g6 _ b6r h36.2 (by omega) u9
      rw [HD.out, HU.out, List.append_nil]
      exact ⟨Z, oa, on, oc, rfl, h9.rd.1, h9.rd.2, grown_far Gr u9 (fun q e => by have e := Option.some.inj e; omega)⟩

theorem RO.kcell {lo : Nat} {w : World} {a : Option Addr} {n c : Nat} {qs : List Rw} (h : RO w lo a n c qs) {gq oq k : Nat} {r : Rw} (e : a = some ⟨gq, oq, none⟩) (hr : qs[k]? = some r) : w.cell? ⟨gq, oq + k, none⟩ = some (.slice r.a r.n r.c) := by
  rcases h.at' with ⟨h0, _⟩ | ⟨g, o, cur, e', _, hh, _, hc⟩
  · rw [h0] at e; cases e
  · rw [e'] at e
    cases e
    rw [cell_of_row _ _ _ _ _ _ hh]
    exact hc k (.slice r.a r.n r.c) (by simp only [flatR, List.getElem?_map, hr]; rfl)
/-- the document's tick behind what was heard -/
def saF (d : Hd) (wt ag : Bool) : Hd := if (saD d wt ag).hl = 0 then sfD (saD d wt ag) wt else saD d wt ag
def saFU (d : Hd) (wt ag : Bool) : List (List Nat) := saU d wt ag ++ (if (saD d wt ag).hl = 0 then sfU (saD d wt ag) wt else [])
theorem saF_of {d d3 : Hd} {wt ag : Bool} {U : List (List Nat)} (hD : saD d wt ag = d3) (hU : saU d wt ag = U) (h0 : d3.hl = 0) : saF d wt ag = sfD d3 wt ∧ saFU d wt ag = U ++ sfU d3 wt := by
  unfold saF saFU
  rw [hD, hU, if_pos h0, if_pos h0]
  exact ⟨rfl, rfl⟩
set_option maxHeartbeats 64000000 in
theorem so_t25 {u0 u1 u2 u4 u5 u7 u8 u11 u12 u13 u15 u16 u17 u18 u19 u20 u21 u22 u23 u24 u25 u26 u27 u28 u29 u30 u31 u32 u33 u34 u35 u36 u37 u38 u39 u40 u41 u42 u43 u44 u45 u46 u47 u48 u49 u50 u51 u52 u53 u54 u55 u56 u57 u58 u59 u60 u61 u62 u63 u64 u65 u66 u67 u68 u69 u70 u71 u72 u73 u74 u75 u76 u77 u78 u79 u80 u81 u82 u83 u84 u85 u86 u87 u88 u89 u90 u91 u92 u93 u94 u95 u96 u97 u98 u99 u100 u101 u102 u103 u104 u105 u106 u107 u108 u109 u110 u111 u112 u113 u114 u115 u116 u117 u118 u119 u120 u121 u122 u123 u124 u125 u126 u127 u128 u129 u130 u131 u132 u133 u134 u135 u136 u137 u138 u139 u140 u141 u142 u143 u144 u145 u146 u147 u148 u149 u150 u151 u152 u153 u154 u155 u156 u157 u158 u159 u160 u161 u162 u163 u164 u165 u166 u167 u168 u169 u170 u171 u172 u173 u174 u175 u176 u177 u178 u179 u180 u181 u182 u183 u184 u185 u186 u187 u188 u189 u190 u191 u192 u193 u194 : Value} (w wz : World) (lo g3 g6 : Nat) (d : Hd) (Z : Hx) (rs qs : List Rw) (wt ag bb : Bool) (hbb : saW d wt ag = bb) (h : DW lo wz g3 d Z rs qs none 0 0 [] []) (b6 : BxS wz g6 50 #[.int .i64 0, .int .i64 0, .int .i64 0, .slice none 0 0, .slice none 0 0, .int .i64 0, .int .i64 0, .int .i64 0, .int .i64 0, .int .i64 0, .int .i64 0, .int .i64 0]) (h36 : g3 < g6 ∧ g6 < lo) (hw3 : w.heap.size ≤ g3) (G : w.grownBy wz none) (hk : Hk2 d) (hh : d.hl = 0) (htp : d.ti + 1 ≤ d.pa) :
    Code.wp Try.prog (tailR 25 (Try.f38.body.getD .skip)) (bodyPost Try.prog Try.f38 (fun e w' => ∃ (P1 : Hx) (xa : Option Addr) (xn xc : Nat), e = .returned (.tuple #[.agg #[.int .i64 (saF d wt ag).cr, .int .i64 (saF d wt ag).nx, .int .i64 (saF d wt ag).ah, .slice P1.sa P1.sn P1.sc, .slice P1.qa P1.qn P1.qc, .int .i64 (saF d wt ag).ti, .int .i64 (saF d wt ag).pa, .int .i64 (saF d wt ag).tr, .int .i64 (saF d wt ag).li, .int .i64 (saF d wt ag).si, .int .i64 (saF d wt ag).pu, .int .i64 (saF d wt ag).hl], .slice xa xn xc, .int .i64 0]) ∧ RdHd w' P1 (saF d wt ag) ∧ RdW w' xa xn xc (saFU d wt ag) ∧ w.grownBy w' none)) (Act.mk (List.toArray (u0 :: u1 :: u2 :: (.pointer (some ⟨g3, 0, none⟩)) :: u4 :: u5 :: (.pointer (some ⟨g6, 0, none⟩)) :: u7 :: u8 :: (.bool wt) :: (.bool bb) :: u11 :: u12 :: u13 :: (.slice none 0 0) :: u15 :: u16 :: u17 :: u18 :: u19 :: u20 :: u21 :: u22 :: u23 :: u24 :: u25 :: u26 :: u27 :: u28 :: u29 :: u30 :: u31 :: u32 :: u33 :: u34 :: u35 :: u36 :: u37 :: u38 :: u39 :: u40 :: u41 :: u42 :: u43 :: u44 :: u45 :: u46 :: u47 :: u48 :: u49 :: u50 :: u51 :: u52 :: u53 :: u54 :: u55 :: u56 :: u57 :: u58 :: u59 :: u60 :: u61 :: u62 :: u63 :: u64 :: u65 :: u66 :: u67 :: u68 :: u69 :: u70 :: u71 :: u72 :: u73 :: u74 :: u75 :: u76 :: u77 :: u78 :: u79 :: u80 :: u81 :: u82 :: u83 :: u84 :: u85 :: u86 :: u87 :: u88 :: u89 :: u90 :: u91 :: u92 :: u93 :: u94 :: u95 :: u96 :: u97 :: u98 :: u99 :: u100 :: u101 :: u102 :: u103 :: u104 :: u105 :: u106 :: u107 :: u108 :: u109 :: u110 :: u111 :: u112 :: u113 :: u114 :: u115 :: u116 :: u117 :: u118 :: u119 :: u120 :: u121 :: u122 :: u123 :: u124 :: u125 :: u126 :: u127 :: u128 :: u129 :: u130 :: u131 :: u132 :: u133 :: u134 :: u135 :: u136 :: u137 :: u138 :: u139 :: u140 :: u141 :: u142 :: u143 :: u144 :: u145 :: u146 :: u147 :: u148 :: u149 :: u150 :: u151 :: u152 :: u153 :: u154 :: u155 :: u156 :: u157 :: u158 :: u159 :: u160 :: u161 :: u162 :: u163 :: u164 :: u165 :: u166 :: u167 :: u168 :: u169 :: u170 :: u171 :: u172 :: u173 :: u174 :: u175 :: u176 :: u177 :: u178 :: u179 :: u180 :: u181 :: u182 :: u183 :: u184 :: u185 :: u186 :: u187 :: u188 :: u189 :: u190 :: u191 :: u192 :: u193 :: u194 :: [])) []) wz := by
  let pq : Exit → Act → World → Prop := bodyPost Try.prog Try.f38 (fun _ _ => True)
  conv => enter [2]; whnf
  refine wp_seq_k fun KK hKK => ?_
  have HKK : Hid _ := hKK
  clear hKK
  have i12 := Try.info_hn3
  have bx := h.box
  have lS := h.lS
  have HBB : Hid (saW d wt ag = bb) := hbb
  have HH : Hid (d.hl = 0) := hh
  have hti := hk.ti
  have htr := hk.tr
  have hah := hk.ah
  have n63 : some g6 ≠ some g3 := fun e => by have e := Option.some.inj e; omega
  clear hbb hh
  obtain ⟨v0, v1, v2, v3, v4, v5, v6, v7, v8, v9, v10, v11⟩ := bx.cell12
  have s1 : True := trivial
  by_cases hE : d.S.length = 0
  · have hz : ((Z.sn : Int) == 0) = true := by simp; omega
    obtain ⟨eV, eR⟩ := saF_of (d := d) (wt := wt) (ag := ag) (d3 := ⟨d.cr, d.nx, d.ah, 0, d.pa, d.tr, d.li, d.si, d.pu, d.hl, d.S, d.Q⟩) (U := []) (if_pos hE) (if_pos hE) HH.out
    have HV : Hid _ := eV
    have HR : Hid _ := eR
    clear eV eR
    go_wp2_with (have _t := s1; clear s1; refine wpList_stC _ rfl _ _ _ rfl g3 5 50 _ #[.int .i64 d.cr, .int .i64 d.nx, .int .i64 d.ah, .slice Z.sa Z.sn Z.sc, .slice Z.qa Z.qn Z.qc, .int .i64 0, .int .i64 d.pa, .int .i64 d.tr, .int .i64 d.li, .int .i64 d.si, .int .i64 d.pu, .int .i64 d.hl] (.int .i64 0) rfl rfl bx (stc_int _ _ _) (by show 5 < 12; decide) rfl ?_; intro w1 b1 u1; skip)
    have hK2 := HKK.out
    rw [HV.out, HR.out] at hK2
    exact hK2 _ _ (so_t39 w _ lo g3 g6 ⟨d.cr, d.nx, d.ah, 0, d.pa, d.tr, d.li, d.si, d.pu, d.hl, d.S, d.Q⟩ Z rs qs none 0 0 [] [] wt (h.setI ⟨d.cr, d.nx, d.ah, 0, d.pa, d.tr, d.li, d.si, d.pu, d.hl, d.S, d.Q⟩ rfl rfl b1 u1) (b6.keep u1 n63) h36 hw3 (grown_far G u1 (fun q e => by have e := Option.some.inj e; omega)) ⟨hk.cr, hk.nx, hk.ah, hk.q, hk.fS, hk.fQ⟩ (by omega))
  · have hz : ((Z.sn : Int) == 0) = false := by simp; omega
    have hwt : IntKind.i64.wrap (d.ti + 1) = d.ti + 1 := wrap_in _ (by omega) (by omega)
    by_cases hC : bb = false ∧ ¬ d.ti + 1 = d.pa
    · obtain ⟨rfl, hne⟩ := hC
      have hn2 : (d.ti + 1 == d.pa) = false := beq_false_of_ne hne
      have hc : (!saW d wt ag) = true ∧ d.ti + 1 < d.pa := ⟨by rw [HBB.out]; rfl, by omega⟩
      obtain ⟨eV, eR⟩ := saF_of (d := d) (wt := wt) (ag := ag) (d3 := ⟨d.cr, d.nx, d.ah, (d.ti + 1), d.pa, d.tr, d.li, d.si, d.pu, d.hl, d.S, d.Q⟩) (U := []) (by unfold saD; rw [if_neg hE, if_pos hc]) (by unfold saU; rw [if_neg hE, if_pos hc]) HH.out
      have HV : Hid _ := eV
      have HR : Hid _ := eR
      clear eV eR hc hne
      go_wp2_with (have _t := s1; clear s1; refine wpList_stC _ rfl _ _ _ rfl g3 5 50 _ #[.int .i64 d.cr, .int .i64 d.nx, .int .i64 d.ah, .slice Z.sa Z.sn Z.sc, .slice Z.qa Z.qn Z.qc, .int .i64 (d.ti + 1), .int .i64 d.pa, .int .i64 d.tr, .int .i64 d.li, .int .i64 d.si, .int .i64 d.pu, .int .i64 d.hl] (.int .i64 (d.ti + 1)) rfl rfl bx (stc_int _ _ _) (by show 5 < 12; decide) rfl ?_; intro w1 b1 u1; skip)
      have hK2 := HKK.out
      rw [HV.out, HR.out] at hK2
      exact hK2 _ _ (so_t39 w _ lo g3 g6 ⟨d.cr, d.nx, d.ah, (d.ti + 1), d.pa, d.tr, d.li, d.si, d.pu, d.hl, d.S, d.Q⟩ Z rs qs none 0 0 [] [] wt (h.setI ⟨d.cr, d.nx, d.ah, (d.ti + 1), d.pa, d.tr, d.li, d.si, d.pu, d.hl, d.S, d.Q⟩ rfl rfl b1 u1) (b6.keep u1 n63) h36 hw3 (grown_far G u1 (fun q e => by have e := Option.some.inj e; omega)) ⟨hk.cr, hk.nx, hk.ah, hk.q, hk.fS, hk.fQ⟩ (by omega))
    · have hc : ¬ ((!saW d wt ag) = true ∧ d.ti + 1 < d.pa) := fun hh => hC ⟨by rw [← HBB.out]; cases hq : saW d wt ag <;> simp_all, by omega⟩
      have HC : Hid (¬ ((!saW d wt ag) = true ∧ d.ti + 1 < d.pa)) := hc
      clear hc
      have hways : bb = true ∨ (bb = false ∧ (d.ti + 1 == d.pa) = true) := by
        cases bb
        · refine .inr ⟨rfl, ?_⟩
          by_cases e : d.ti + 1 = d.pa
          · rw [e]; simp
          · exact absurd ⟨rfl, e⟩ hC
        · exact .inl rfl
      clear hC
      by_cases htl : d.tr = d.li
      · have eD : saD d wt ag = ⟨d.cr, d.nx, d.ah, 0, d.pa, d.tr, d.li, 0, d.pu, 19, d.S, d.Q⟩ := by unfold saD; rw [if_neg hE, if_neg HC.out, if_pos htl]
        have eU : saU d wt ag = [] := by unfold saU; rw [if_neg hE, if_neg HC.out, if_pos htl]
        have HV : Hid (saF d wt ag = ⟨d.cr, d.nx, d.ah, 0, d.pa, d.tr, d.li, 0, d.pu, 19, d.S, d.Q⟩) := by show _ = _; unfold saF; rw [eD]; rfl
        have HR : Hid (saFU d wt ag = []) := by show _ = _; unfold saFU; rw [eD, eU]; rfl
        have htl' : (d.tr == d.li) = true := by rw [htl]; simp
        clear eD eU htl
        rcases hways with rfl | ⟨rfl, hpe⟩
        · go_wp2_with (first
            | (have _t := s1; clear s1; refine wpList_stC _ rfl _ _ _ rfl g3 5 50 _ #[.int .i64 d.cr, .int .i64 d.nx, .int .i64 d.ah, .slice Z.sa Z.sn Z.sc, .slice Z.qa Z.qn Z.qc, .int .i64 0, .int .i64 d.pa, .int .i64 d.tr, .int .i64 d.li, .int .i64 d.si, .int .i64 d.pu, .int .i64 d.hl] (.int .i64 0) rfl rfl bx (stc_int _ _ _) (by show 5 < 12; decide) rfl ?_; intro w1 b1 u1; have s2 : True := trivial)
            | (have _t := s2; clear s2; refine wpList_stC _ rfl _ _ _ rfl g3 9 50 _ #[.int .i64 d.cr, .int .i64 d.nx, .int .i64 d.ah, .slice Z.sa Z.sn Z.sc, .slice Z.qa Z.qn Z.qc, .int .i64 0, .int .i64 d.pa, .int .i64 d.tr, .int .i64 d.li, .int .i64 0, .int .i64 d.pu, .int .i64 d.hl] (.int .i64 0) rfl rfl b1 (stc_int _ _ _) (by show 9 < 12; decide) rfl ?_; intro w2 b2 u2; clear v0 v1 v2 v3 v4 v5 v6 v7 v8 v9 v10 v11; obtain ⟨v0, v1, v2, v3, v4, v5, v6, v7, v8, v9, v10, v11⟩ := b2.cell12; have s3 : True := trivial)
            | (have _t := s3; clear s3; refine wpList_stC _ rfl _ _ _ rfl g3 11 50 _ #[.int .i64 d.cr, .int .i64 d.nx, .int .i64 d.ah, .slice Z.sa Z.sn Z.sc, .slice Z.qa Z.qn Z.qc, .int .i64 0, .int .i64 d.pa, .int .i64 d.tr, .int .i64 d.li, .int .i64 0, .int .i64 d.pu, .int .i64 19] (.int .i64 19) rfl rfl b2 (stc_err _ _ _) (by show 11 < 12; decide) rfl ?_; intro w3 b3 u3; clear v0 v1 v2 v3 v4 v5 v6 v7 v8 v9 v10 v11; obtain ⟨v0, v1, v2, v3, v4, v5, v6, v7, v8, v9, v10, v11⟩ := b3.cell12; have b63 := ((b6.keep u1 n63).keep u2 n63).keep u3 n63; have s4 : True := trivial)
            | (have _t := s4; clear s4; refine wpList_stX _ rfl _ (.tmp 6) (.tmp 114) rfl g6 _ _ rfl rfl b63 i12 rfl (by simp [Value.oneCell']) ?_; intro w9 b9 u9))
          refine bodyPost_ret (results_cell3 rfl _ _ _ ⟨g6, 0, none⟩ _ (.slice none 0 0) (.int .i64 0) rfl (BxS.load (t := 50) b9 Try.underlying50 i12) rfl rfl) rfl ?_
          have h3 := ((h.setI ⟨d.cr, d.nx, d.ah, 0, d.pa, d.tr, d.li, d.si, d.pu, d.hl, d.S, d.Q⟩ rfl rfl b1 u1).setI ⟨d.cr, d.nx, d.ah, 0, d.pa, d.tr, d.li, 0, d.pu, d.hl, d.S, d.Q⟩ rfl rfl b2 u2).setI ⟨d.cr, d.nx, d.ah, 0, d.pa, d.tr, d.li, 0, d.pu, 19, d.S, d.Q⟩ rfl rfl b3 u3
          have h9 := h3.far g6 _ b63 h36.2 (by omega) u9
          rw [HV.out, HR.out]
          exact ⟨Z, none, 0, 0, rfl, h9.rd.1, RdW.nil _, grown_far (grown_far (grown_far (grown_far G u1 (fun q e => by have e := Option.some.inj e; omega)) u2 (fun q e => by have e := Option.some.inj e; omega)) u3 (fun q e => by have e := Option.some.inj e; omega)) u9 (fun q e => by have e := Option.some.inj e; omega)⟩
        · go_wp2_with (first
            | (have _t := s1; clear s1; refine wpList_stC _ rfl _ _ _ rfl g3 5 50 _ #[.int .i64 d.cr, .int .i64 d.nx, .int .i64 d.ah, .slice Z.sa Z.sn Z.sc, .slice Z.qa Z.qn Z.qc, .int .i64 0, .int .i64 d.pa, .int .i64 d.tr, .int .i64 d.li, .int .i64 d.si, .int .i64 d.pu, .int .i64 d.hl] (.int .i64 0) rfl rfl bx (stc_int _ _ _) (by show 5 < 12; decide) rfl ?_; intro w1 b1 u1; have s2 : True := trivial)
            | (have _t := s2; clear s2; refine wpList_stC _ rfl _ _ _ rfl g3 9 50 _ #[.int .i64 d.cr, .int .i64 d.nx, .int .i64 d.ah, .slice Z.sa Z.sn Z.sc, .slice Z.qa Z.qn Z.qc, .int .i64 0, .int .i64 d.pa, .int .i64 d.tr, .int .i64 d.li, .int .i64 0, .int .i64 d.pu, .int .i64 d.hl] (.int .i64 0) rfl rfl b1 (stc_int _ _ _) (by show 9 < 12; decide) rfl ?_; intro w2 b2 u2; clear v0 v1 v2 v3 v4 v5 v6 v7 v8 v9 v10 v11; obtain ⟨v0, v1, v2, v3, v4, v5, v6, v7, v8, v9, v10, v11⟩ := b2.cell12; have s3 : True := trivial)
            | (have _t := s3; clear s3; refine wpList_stC _ rfl _ _ _ rfl g3 11 50 _ #[.int .i64 d.cr, .int .i64 d.nx, .int .i64 d.ah, .slice Z.sa Z.sn Z.sc, .slice Z.qa Z.qn Z.qc, .int .i64 0, .int .i64 d.pa, .int .i64 d.tr, .int .i64 d.li, .int .i64 0, .int .i64 d.pu, .int .i64 19] (.int .i64 19) rfl rfl b2 (stc_err _ _ _) (by show 11 < 12; decide) rfl ?_; intro w3 b3 u3; clear v0 v1 v2 v3 v4 v5 v6 v7 v8 v9 v10 v11; obtain ⟨v0, v1, v2, v3, v4, v5, v6, v7, v8, v9, v10, v11⟩ := b3.cell12; have b63 := ((b6.keep u1 n63).keep u2 n63).keep u3 n63; have s4 : True := trivial)
            | (have _t := s4; clear s4; refine wpList_stX _ rfl _ (.tmp 6) (.tmp 114) rfl g6 _ _ rfl rfl b63 i12 rfl (by simp [Value.oneCell']) ?_; intro w9 b9 u9))
          refine bodyPost_ret (results_cell3 rfl _ _ _ ⟨g6, 0, none⟩ _ (.slice none 0 0) (.int .i64 0) rfl (BxS.load (t := 50) b9 Try.underlying50 i12) rfl rfl) rfl ?_
          have h3 := ((h.setI ⟨d.cr, d.nx, d.ah, 0, d.pa, d.tr, d.li, d.si, d.pu, d.hl, d.S, d.Q⟩ rfl rfl b1 u1).setI ⟨d.cr, d.nx, d.ah, 0, d.pa, d.tr, d.li, 0, d.pu, d.hl, d.S, d.Q⟩ rfl rfl b2 u2).setI ⟨d.cr, d.nx, d.ah, 0, d.pa, d.tr, d.li, 0, d.pu, 19, d.S, d.Q⟩ rfl rfl b3 u3
          have h9 := h3.far g6 _ b63 h36.2 (by omega) u9
          rw [HV.out, HR.out]
          exact ⟨Z, none, 0, 0, rfl, h9.rd.1, RdW.nil _, grown_far (grown_far (grown_far (grown_far G u1 (fun q e => by have e := Option.some.inj e; omega)) u2 (fun q e => by have e := Option.some.inj e; omega)) u3 (fun q e => by have e := Option.some.inj e; omega)) u9 (fun q e => by have e := Option.some.inj e; omega)⟩
      · have htl' : (d.tr == d.li) = false := beq_false_of_ne htl
        obtain ⟨eV, eR⟩ := saF_of (d := d) (wt := wt) (ag := ag) (d3 := ⟨d.cr, d.nx, d.ah, 0, d.pa, (d.tr + 1), d.li, 0, d.pu, d.hl, d.S, d.Q⟩) (U := upL d.cr.toNat (d.nx - (d.S.length : Int)) d.S) (by unfold saD; rw [if_neg hE, if_neg HC.out, if_neg htl]) (by unfold saU; rw [if_neg hE, if_neg HC.out, if_neg htl]) HH.out
        have HV : Hid _ := eV
        have HR : Hid _ := eR
        clear eV eR htl
        have hwr : IntKind.i64.wrap (d.tr + 1) = d.tr + 1 := wrap_in _ (by omega) (by omega)
        rcases hways with rfl | ⟨rfl, hpe⟩
        · go_wp2_with (first
            | (have _t := s1; clear s1; refine wpList_stC _ rfl _ _ _ rfl g3 5 50 _ #[.int .i64 d.cr, .int .i64 d.nx, .int .i64 d.ah, .slice Z.sa Z.sn Z.sc, .slice Z.qa Z.qn Z.qc, .int .i64 0, .int .i64 d.pa, .int .i64 d.tr, .int .i64 d.li, .int .i64 d.si, .int .i64 d.pu, .int .i64 d.hl] (.int .i64 0) rfl rfl bx (stc_int _ _ _) (by show 5 < 12; decide) rfl ?_; intro w1 b1 u1; have s2 : True := trivial)
            | (have _t := s2; clear s2; refine wpList_stC _ rfl _ _ _ rfl g3 9 50 _ #[.int .i64 d.cr, .int .i64 d.nx, .int .i64 d.ah, .slice Z.sa Z.sn Z.sc, .slice Z.qa Z.qn Z.qc, .int .i64 0, .int .i64 d.pa, .int .i64 d.tr, .int .i64 d.li, .int .i64 0, .int .i64 d.pu, .int .i64 d.hl] (.int .i64 0) rfl rfl b1 (stc_int _ _ _) (by show 9 < 12; decide) rfl ?_; intro w2 b2 u2; clear v0 v1 v2 v3 v4 v5 v6 v7 v8 v9 v10 v11; obtain ⟨v0, v1, v2, v3, v4, v5, v6, v7, v8, v9, v10, v11⟩ := b2.cell12; have s3 : True := trivial)
            | (have _t := s3; clear s3; refine wpList_stC _ rfl _ _ _ rfl g3 7 50 _ #[.int .i64 d.cr, .int .i64 d.nx, .int .i64 d.ah, .slice Z.sa Z.sn Z.sc, .slice Z.qa Z.qn Z.qc, .int .i64 0, .int .i64 d.pa, .int .i64 (d.tr + 1), .int .i64 d.li, .int .i64 0, .int .i64 d.pu, .int .i64 d.hl] (.int .i64 (d.tr + 1)) rfl rfl b2 (stc_int _ _ _) (by show 7 < 12; decide) rfl ?_; intro w3 b3 u3; skip))
          have h3 := ((h.setI ⟨d.cr, d.nx, d.ah, 0, d.pa, d.tr, d.li, d.si, d.pu, d.hl, d.S, d.Q⟩ rfl rfl b1 u1).setI ⟨d.cr, d.nx, d.ah, 0, d.pa, d.tr, d.li, 0, d.pu, d.hl, d.S, d.Q⟩ rfl rfl b2 u2).setI ⟨d.cr, d.nx, d.ah, 0, d.pa, (d.tr + 1), d.li, 0, d.pu, d.hl, d.S, d.Q⟩ rfl rfl b3 u3
          have b63 := ((b6.keep u1 n63).keep u2 n63).keep u3 n63
          have G3 := grown_far (grown_far (grown_far G u1 (fun q e => by have e := Option.some.inj e; omega)) u2 (fun q e => by have e := Option.some.inj e; omega)) u3 (fun q e => by have e := Option.some.inj e; omega)
          clear b1 b2 b3 u1 u2 u3
          clear v0 v1 v2 v3 v4 v5 v6 v7 v8 v9 v10 v11
          go_loopw [14, 15] (fun ov iv wr => ∃ (k : Nat) (oa' : Option Addr) (oc' : Nat) (os' : List Rw), ov = .slice oa' k oc' ∧ iv = .int .i64 k ∧ k ≤ Z.sn ∧ DW lo wr g3 ⟨d.cr, d.nx, d.ah, 0, d.pa, (d.tr + 1), d.li, 0, d.pu, d.hl, d.S, d.Q⟩ Z rs qs oa' k oc' os' (upL d.cr.toNat (d.nx - (d.S.length : Int)) (d.S.take k)) ∧ BxS wr g6 50 #[.int .i64 0, .int .i64 0, .int .i64 0, .slice none 0 0, .slice none 0 0, .int .i64 0, .int .i64 0, .int .i64 0, .int .i64 0, .int .i64 0, .int .i64 0, .int .i64 0] ∧ w.grownBy wr none) (fun _ iv _ => Z.sn - (intOf iv).toNat)
          case atStart => exact ⟨0, none, 0, [], rfl, by go_num, Nat.zero_le _, h3, b63, G3⟩
          case round =>
            obtain ⟨k, oa', oc', os', rfl, rfl, hkn, hr, b6r, Gr⟩ := hrel
            have bx3 := hr.box
            dsimp only at bx3
            by_cases hlt : k < Z.sn
            · have hlt' : (k : Int) < (Z.sn : Int) := by omega
              obtain ⟨gs, o1, cur, eq, _⟩ : ∃ gs o1 cur, Z.sa = some ⟨gs, o1, none⟩ ∧ cur = wz := by
                rcases hr.s.at' with ⟨_, h0, _⟩ | ⟨g, o, cur, e, _⟩
                · omega
                · exact ⟨g, o, wz, e, rfl⟩
              obtain ⟨r, hr0⟩ : ∃ r, rs[k]? = some r := ⟨_, List.getElem?_eq_getElem (by have := hr.s.len; omega)⟩
              have hrm : r ∈ rs := List.mem_of_getElem? hr0
              have eD : r.D = d.S.getD k [] := by
                have e1 : (rs.map Rw.D)[k]? = some r.D := by rw [List.getElem?_map, hr0]; rfl
                have e2 := hr.eS
                dsimp only at e2
                rw [e2] at e1
                rw [List.getD_eq_getElem?_getD, e1]; rfl
              have hFk := hk.fS k (by omega)
              rw [← eD, (hr.s.each r hrm).len] at hFk
              have HD' : Hid (r.D = d.S.getD k []) := eD
              obtain ⟨q, hq⟩ : ∃ q : Int, q = d.nx - (Z.sn : Int) + (k : Int) := ⟨_, rfl⟩
              have hnx := hk.nx
              have hq2 : -256 ≤ q ∧ q ≤ 1000 := by omega
              have HQ : Hid (q = d.nx - (d.S.length : Int) + (k : Int)) := by show _ = _; omega
              have hw1 : IntKind.i64.wrap (d.nx - (Z.sn : Int)) = d.nx - (Z.sn : Int) := wrap_in _ (by omega) (by omega)
              have hw2 : IntKind.i64.wrap (d.nx - (Z.sn : Int) + (k : Int)) = q := by rw [hq]; exact wrap_in _ (by omega) (by omega)
              have hwk : IntKind.i64.wrap ((k : Int) + 1) = (k : Int) + 1 := wrap_in _ (by omega) (by omega)
              have kU := fun wz (hR : Rd wz r.a r.n r.c r.D) => rup_any ⟨some ⟨gs, o1, none⟩, Z.sn, Z.sc, Z.qa, Z.qn, Z.qc⟩ ⟨d.cr, d.nx, d.ah, 0, d.pa, (d.tr + 1), d.li, 0, d.pu, d.hl, d.S, d.Q⟩ q r.a r.n r.c r.D wz hR hk.cr hq2 hFk
              dsimp only at kU
              clear eD hq
              have HEQ : Hid (Z.sa = some ⟨gs, o1, none⟩) := eq
              rw [eq] at bx3
              clear eq
              have hrd := hr.keep (grown_drew wr none)
              have SS : BxS wr.drew g3 50 #[.int .i64 d.cr, .int .i64 d.nx, .int .i64 d.ah, .slice (some ⟨gs, o1, none⟩) Z.sn Z.sc, .slice Z.qa Z.qn Z.qc, .int .i64 0, .int .i64 d.pa, .int .i64 (d.tr + 1), .int .i64 d.li, .int .i64 0, .int .i64 d.pu, .int .i64 d.hl] ∧ wr.drew.cell? ⟨gs, o1 + k, none⟩ = some (.slice r.a r.n r.c) := ⟨bx3.keep (grown_drew wr none) (by simp), hrd.s.kcell HEQ.out hr0⟩
              obtain ⟨v0, v1, v2, v3, v4, v5, v6, v7, v8, v9, v10, v11⟩ := bx3.cell12
              go_wp2
              refine wp_regionL (fun wz => BxS wz g3 50 #[.int .i64 d.cr, .int .i64 d.nx, .int .i64 d.ah, .slice (some ⟨gs, o1, none⟩) Z.sn Z.sc, .slice Z.qa Z.qn Z.qc, .int .i64 0, .int .i64 d.pa, .int .i64 (d.tr + 1), .int .i64 d.li, .int .i64 0, .int .i64 d.pu, .int .i64 d.hl] ∧ wz.cell? ⟨gs, o1 + k, none⟩ = some (.slice r.a r.n r.c)) [] #[false, false, false, false, false, false, false, false, false, false, false, false, false, false, false, false, false, false, false] rfl (by kernel_rfl) ?_
              refine wpAnyZ_take [] 0 (.slice oa' k oc') rfl (by kernel_rfl) (fun _ _ _ h => h) SS rfl (by rintro wz ⟨hz, hcl⟩; obtain ⟨z0, z1, z2, z3, z4, z5, z6, z7, z8, z9, z10, z11⟩ := hz.cell12; go_simp) ?_
              try simp only [List.getElem_toArray, List.getElem_cons_succ, List.getElem_cons_zero, Act.put, List.setIfInBounds_toArray, List.set_cons_zero, List.set_cons_succ]
              refine wpAnyZ_take [] 1 (.agg #[.int .i64 d.cr, .int .i64 d.nx, .int .i64 d.ah, .slice (some ⟨gs, o1, none⟩) Z.sn Z.sc, .slice Z.qa Z.qn Z.qc, .int .i64 0, .int .i64 d.pa, .int .i64 (d.tr + 1), .int .i64 d.li, .int .i64 0, .int .i64 d.pu, .int .i64 d.hl]) rfl (by kernel_rfl) (fun _ _ _ h => h) SS rfl (by rintro wz ⟨hz, hcl⟩; obtain ⟨z0, z1, z2, z3, z4, z5, z6, z7, z8, z9, z10, z11⟩ := hz.cell12; go_simp) ?_
              try simp only [List.getElem_toArray, List.getElem_cons_succ, List.getElem_cons_zero, Act.put, List.setIfInBounds_toArray, List.set_cons_zero, List.set_cons_succ]
              refine wpAnyZ_take [] 2 (.pointer (some ⟨g3, 1, none⟩)) rfl (by kernel_rfl) (fun _ _ _ h => h) SS rfl (by rintro wz ⟨hz, hcl⟩; obtain ⟨z0, z1, z2, z3, z4, z5, z6, z7, z8, z9, z10, z11⟩ := hz.cell12; go_simp) ?_
              try simp only [List.getElem_toArray, List.getElem_cons_succ, List.getElem_cons_zero, Act.put, List.setIfInBounds_toArray, List.set_cons_zero, List.set_cons_succ]
              refine wpAnyZ_take [] 3 (.int .i64 d.nx) rfl (by kernel_rfl) (fun _ _ _ h => h) SS rfl (by rintro wz ⟨hz, hcl⟩; obtain ⟨z0, z1, z2, z3, z4, z5, z6, z7, z8, z9, z10, z11⟩ := hz.cell12; go_simp) ?_
              try simp only [List.getElem_toArray, List.getElem_cons_succ, List.getElem_cons_zero, Act.put, List.setIfInBounds_toArray, List.set_cons_zero, List.set_cons_succ]
              refine wpAnyZ_take [] 4 (.pointer (some ⟨g3, 3, none⟩)) rfl (by kernel_rfl) (fun _ _ _ h => h) SS rfl (by rintro wz ⟨hz, hcl⟩; obtain ⟨z0, z1, z2, z3, z4, z5, z6, z7, z8, z9, z10, z11⟩ := hz.cell12; go_simp) ?_
              try simp only [List.getElem_toArray, List.getElem_cons_succ, List.getElem_cons_zero, Act.put, List.setIfInBounds_toArray, List.set_cons_zero, List.set_cons_succ]
              refine wpAnyZ_take [] 5 (.slice (some ⟨gs, o1, none⟩) Z.sn Z.sc) rfl (by kernel_rfl) (fun _ _ _ h => h) SS rfl (by rintro wz ⟨hz, hcl⟩; obtain ⟨z0, z1, z2, z3, z4, z5, z6, z7, z8, z9, z10, z11⟩ := hz.cell12; go_simp) ?_
              try simp only [List.getElem_toArray, List.getElem_cons_succ, List.getElem_cons_zero, Act.put, List.setIfInBounds_toArray, List.set_cons_zero, List.set_cons_succ]
              refine wpAnyZ_take [] 6 (.int .i64 (Z.sn : Int)) rfl (by kernel_rfl) (fun _ _ _ h => h) SS rfl (by rintro wz ⟨hz, hcl⟩; obtain ⟨z0, z1, z2, z3, z4, z5, z6, z7, z8, z9, z10, z11⟩ := hz.cell12; go_simp) ?_
              try simp only [List.getElem_toArray, List.getElem_cons_succ, List.getElem_cons_zero, Act.put, List.setIfInBounds_toArray, List.set_cons_zero, List.set_cons_succ]
              refine wpAnyZ_take [] 7 (.int .i64 (d.nx - (Z.sn : Int))) rfl (by kernel_rfl) (fun _ _ _ h => h) SS rfl (by rintro wz ⟨hz, hcl⟩; obtain ⟨z0, z1, z2, z3, z4, z5, z6, z7, z8, z9, z10, z11⟩ := hz.cell12; go_simp) ?_
              try simp only [List.getElem_toArray, List.getElem_cons_succ, List.getElem_cons_zero, Act.put, List.setIfInBounds_toArray, List.set_cons_zero, List.set_cons_succ]
              refine wpAnyZ_take [] 8 (.int .i64 (k : Int)) rfl (by kernel_rfl) (fun _ _ _ h => h) SS rfl (by rintro wz ⟨hz, hcl⟩; obtain ⟨z0, z1, z2, z3, z4, z5, z6, z7, z8, z9, z10, z11⟩ := hz.cell12; go_simp) ?_
              try simp only [List.getElem_toArray, List.getElem_cons_succ, List.getElem_cons_zero, Act.put, List.setIfInBounds_toArray, List.set_cons_zero, List.set_cons_succ]
              refine wpAnyZ_take [] 9 (.int .i64 q) rfl (by kernel_rfl) (fun _ _ _ h => h) SS rfl (by rintro wz ⟨hz, hcl⟩; obtain ⟨z0, z1, z2, z3, z4, z5, z6, z7, z8, z9, z10, z11⟩ := hz.cell12; go_simp) ?_
              try simp only [List.getElem_toArray, List.getElem_cons_succ, List.getElem_cons_zero, Act.put, List.setIfInBounds_toArray, List.set_cons_zero, List.set_cons_succ]
              refine wpAnyZ_take [] 10 (.pointer (some ⟨g3, 3, none⟩)) rfl (by kernel_rfl) (fun _ _ _ h => h) SS rfl (by rintro wz ⟨hz, hcl⟩; obtain ⟨z0, z1, z2, z3, z4, z5, z6, z7, z8, z9, z10, z11⟩ := hz.cell12; go_simp) ?_
              try simp only [List.getElem_toArray, List.getElem_cons_succ, List.getElem_cons_zero, Act.put, List.setIfInBounds_toArray, List.set_cons_zero, List.set_cons_succ]
              refine wpAnyZ_take [] 11 (.slice (some ⟨gs, o1, none⟩) Z.sn Z.sc) rfl (by kernel_rfl) (fun _ _ _ h => h) SS rfl (by rintro wz ⟨hz, hcl⟩; obtain ⟨z0, z1, z2, z3, z4, z5, z6, z7, z8, z9, z10, z11⟩ := hz.cell12; go_simp) ?_
              try simp only [List.getElem_toArray, List.getElem_cons_succ, List.getElem_cons_zero, Act.put, List.setIfInBounds_toArray, List.set_cons_zero, List.set_cons_succ]
              refine wpAnyZ_take [] 12 (.int .i64 (k : Int)) rfl (by kernel_rfl) (fun _ _ _ h => h) SS rfl (by rintro wz ⟨hz, hcl⟩; obtain ⟨z0, z1, z2, z3, z4, z5, z6, z7, z8, z9, z10, z11⟩ := hz.cell12; go_simp) ?_
              try simp only [List.getElem_toArray, List.getElem_cons_succ, List.getElem_cons_zero, Act.put, List.setIfInBounds_toArray, List.set_cons_zero, List.set_cons_succ]
              refine wpAnyZ_take [] 13 (.pointer (some ⟨gs, o1 + k, none⟩)) rfl (by kernel_rfl) (fun _ _ _ h => h) SS rfl (by rintro wz ⟨hz, hcl⟩; obtain ⟨z0, z1, z2, z3, z4, z5, z6, z7, z8, z9, z10, z11⟩ := hz.cell12; go_simp) ?_
              try simp only [List.getElem_toArray, List.getElem_cons_succ, List.getElem_cons_zero, Act.put, List.setIfInBounds_toArray, List.set_cons_zero, List.set_cons_succ]
              refine wpAnyZ_take [] 14 (.slice r.a r.n r.c) rfl (by kernel_rfl) (fun _ _ _ h => h) SS rfl (by rintro wz ⟨hz, hcl⟩; obtain ⟨z0, z1, z2, z3, z4, z5, z6, z7, z8, z9, z10, z11⟩ := hz.cell12; go_simp) ?_
              try simp only [List.getElem_toArray, List.getElem_cons_succ, List.getElem_cons_zero, Act.put, List.setIfInBounds_toArray, List.set_cons_zero, List.set_cons_succ]
              refine wpAnyZ_oneB 15 rfl (by kernel_rfl) (fun K hK => ?_)
              go_simp
              go_at_call 72
              refine (kU _ (hrd.s.each r hrm).rd).mono ?_
              rintro e w4 ⟨a4, n4, c4, rfl, hA4, y4⟩
              dsimp only
              have hr4 := hrd.keep y4
              have SS : BxS w4 g3 50 #[.int .i64 d.cr, .int .i64 d.nx, .int .i64 d.ah, .slice (some ⟨gs, o1, none⟩) Z.sn Z.sc, .slice Z.qa Z.qn Z.qc, .int .i64 0, .int .i64 d.pa, .int .i64 (d.tr + 1), .int .i64 d.li, .int .i64 0, .int .i64 d.pu, .int .i64 d.hl] ∧ w4.cell? ⟨gs, o1 + k, none⟩ = some (.slice r.a r.n r.c) := ⟨SS.1.keep y4 (by simp), hr4.s.kcell HEQ.out hr0⟩
              refine hK _ _ (fun _ => SS) ?_
              try simp only [List.getElem_toArray, List.getElem_cons_succ, List.getElem_cons_zero, Act.put, List.setIfInBounds_toArray, List.set_cons_zero, List.set_cons_succ]
              refine wpAnyZ_oneB 16 rfl (by kernel_rfl) (fun K hK => ?_)
              go_simp
              have yA := World.grownBy_alloc w4 (.cells #[.slice a4 n4 c4] 22) none
              have cA : (w4.alloc (.cells #[.slice a4 n4 c4] 22)).cell? ⟨w4.heap.size, 0, none⟩ = some (.slice a4 n4 c4) := (BxS.new w4 22 #[.slice a4 n4 c4]).cell 0 (by show 0 < 1; decide)
              have hr5 := hr4.keep yA
              have hA5 := (hA4.wide hrd.ll).keep yA
              have SS : BxS (w4.alloc (.cells #[.slice a4 n4 c4] 22)) g3 50 #[.int .i64 d.cr, .int .i64 d.nx, .int .i64 d.ah, .slice (some ⟨gs, o1, none⟩) Z.sn Z.sc, .slice Z.qa Z.qn Z.qc, .int .i64 0, .int .i64 d.pa, .int .i64 (d.tr + 1), .int .i64 d.li, .int .i64 0, .int .i64 d.pu, .int .i64 d.hl] ∧ (w4.alloc (.cells #[.slice a4 n4 c4] 22)).cell? ⟨gs, o1 + k, none⟩ = some (.slice r.a r.n r.c) := ⟨SS.1.keep yA (by simp), hr5.s.kcell HEQ.out hr0⟩
              have Y5 := grown_trans (grown_trans (grown_drew wr none) y4) yA
              have b65 := b6r.keep Y5 (by simp)
              have G5 := grown_trans Gr Y5
              refine hK _ _ (fun _ => SS) ?_
              try simp only [List.getElem_toArray, List.getElem_cons_succ, List.getElem_cons_zero, Act.put, List.setIfInBounds_toArray, List.set_cons_zero, List.set_cons_succ]
              generalize w4.alloc (.cells #[.slice a4 n4 c4] 22) = w5 at *
              refine wpAnyZ_oneB 17 rfl (by kernel_rfl) (fun K hK => ?_)
              refine step_psRO _ rfl _ _ rfl oa' k oc' lo os' rfl hr5.o hr5.ll (Rw.mk a4 n4 c4 (orL d.cr.toNat false false (q % 256).toNat r.D)) w4.heap.size hA5 cA rfl (by omega) ?_
              intro a6 c6 w6 rr ho6 y6 h61 h62
              have hr6 := hr5.push ho6 y6 h61 h62
              have b66 := b65.keep y6 (fun e => by have := (hr5.o.hlo (h61 g6 e.symm)).1; omega)
              have G6 := grown_far G5 y6 (fun q e => by have := (hr5.o.hlo (h61 q e)).1; have := hr5.gl; omega)
              have SS : BxS w6 g3 50 #[.int .i64 d.cr, .int .i64 d.nx, .int .i64 d.ah, .slice (some ⟨gs, o1, none⟩) Z.sn Z.sc, .slice Z.qa Z.qn Z.qc, .int .i64 0, .int .i64 d.pa, .int .i64 (d.tr + 1), .int .i64 d.li, .int .i64 0, .int .i64 d.pu, .int .i64 d.hl] ∧ w6.cell? ⟨gs, o1 + k, none⟩ = some (.slice r.a r.n r.c) := ⟨by have := hr6.box; dsimp only at this; rw [HEQ.out] at this; exact this, hr6.s.kcell HEQ.out hr0⟩
              refine hK _ _ (fun _ => SS) ?_
              try simp only [List.getElem_toArray, List.getElem_cons_succ, List.getElem_cons_zero, Act.put, List.setIfInBounds_toArray, List.set_cons_zero, List.set_cons_succ]
              refine wpAnyZ_take [] 18 (.slice a6 (k + 1) c6) rfl (by kernel_rfl) (fun _ _ _ h => h) SS rfl (by rintro wz ⟨hz, hcl⟩; obtain ⟨z0, z1, z2, z3, z4, z5, z6, z7, z8, z9, z10, z11⟩ := hz.cell12; go_simp) ?_
              try simp only [List.getElem_toArray, List.getElem_cons_succ, List.getElem_cons_zero, Act.put, List.setIfInBounds_toArray, List.set_cons_zero, List.set_cons_succ]
              refine wpAnyZ_doneB (by kernel_rfl) ?_ _
              have eu : upL d.cr.toNat (d.nx - (d.S.length : Int)) (d.S.take k) ++ [orL d.cr.toNat false false (q % 256).toNat r.D] = upL d.cr.toNat (d.nx - (d.S.length : Int)) (d.S.take (k + 1)) := by
                rw [take_one d.S k (by omega), upL_add, List.length_take, Nat.min_eq_left (by omega), HD'.out, HQ.out]
                rfl
              rw [eu] at hr6
              clear hrd hr4 hr5 hA4 hA5 cA b65 b6r kU Y5 yA y4 G5 Gr hr ho6 y6 h61 h62 hw1 hw2 eu
              clear v0 v1 v2 v3 v4 v5 v6 v7 v8 v9 v10 v11
              go_wp2
              go_roundw
              case rel => exact ⟨k + 1, a6, c6, _, rfl, by go_num, by omega, hr6, b66, G6⟩
              case measure => simp [intOf]; omega
            · have hlt' : ¬ (k : Int) < (Z.sn : Int) := by omega
              obtain rfl : k = Z.sn := by omega
              obtain ⟨v0, v1, v2, v3, v4, v5, v6, v7, v8, v9, v10, v11⟩ := bx3.cell12
              rw [List.take_of_length_le (by omega)] at hr
              go_wp2
              have hK2 := HKK.out
              rw [HV.out, HR.out] at hK2
              exact hK2 _ _ (so_t39 w _ lo g3 g6 ⟨d.cr, d.nx, d.ah, 0, d.pa, (d.tr + 1), d.li, 0, d.pu, d.hl, d.S, d.Q⟩ Z rs qs oa' Z.sn oc' os' (upL d.cr.toNat (d.nx - (d.S.length : Int)) d.S) wt hr b6r h36 hw3 Gr ⟨hk.cr, hk.nx, hk.ah, hk.q, hk.fS, hk.fQ⟩ (by omega))
        · go_wp2_with (first
            | (have _t := s1; clear s1; refine wpList_stC _ rfl _ _ _ rfl g3 5 50 _ #[.int .i64 d.cr, .int .i64 d.nx, .int .i64 d.ah, .slice Z.sa Z.sn Z.sc, .slice Z.qa Z.qn Z.qc, .int .i64 0, .int .i64 d.pa, .int .i64 d.tr, .int .i64 d.li, .int .i64 d.si, .int .i64 d.pu, .int .i64 d.hl] (.int .i64 0) rfl rfl bx (stc_int _ _ _) (by show 5 < 12; decide) rfl ?_; intro w1 b1 u1; have s2 : True := trivial)
            | (have _t := s2; clear s2; refine wpList_stC _ rfl _ _ _ rfl g3 9 50 _ #[.int .i64 d.cr, .int .i64 d.nx, .int .i64 d.ah, .slice Z.sa Z.sn Z.sc, .slice Z.qa Z.qn Z.qc, .int .i64 0, .int .i64 d.pa, .int .i64 d.tr, .int .i64 d.li, .int .i64 0, .int .i64 d.pu, .int .i64 d.hl] (.int .i64 0) rfl rfl b1 (stc_int _ _ _) (by show 9 < 12; decide) rfl ?_; intro w2 b2 u2; clear v0 v1 v2 v3 v4 v5 v6 v7 v8 v9 v10 v11; obtain ⟨v0, v1, v2, v3, v4, v5, v6, v7, v8, v9, v10, v11⟩ := b2.cell12; have s3 : True := trivial)
            | (have _t := s3; clear s3; refine wpList_stC _ rfl _ _ _ rfl g3 7 50 _ #[.int .i64 d.cr, .int .i64 d.nx, .int .i64 d.ah, .slice Z.sa Z.sn Z.sc, .slice Z.qa Z.qn Z.qc, .int .i64 0, .int .i64 d.pa, .int .i64 (d.tr + 1), .int .i64 d.li, .int .i64 0, .int .i64 d.pu, .int .i64 d.hl] (.int .i64 (d.tr + 1)) rfl rfl b2 (stc_int _ _ _) (by show 7 < 12; decide) rfl ?_; intro w3 b3 u3; skip))
          have h3 := ((h.setI ⟨d.cr, d.nx, d.ah, 0, d.pa, d.tr, d.li, d.si, d.pu, d.hl, d.S, d.Q⟩ rfl rfl b1 u1).setI ⟨d.cr, d.nx, d.ah, 0, d.pa, d.tr, d.li, 0, d.pu, d.hl, d.S, d.Q⟩ rfl rfl b2 u2).setI ⟨d.cr, d.nx, d.ah, 0, d.pa, (d.tr + 1), d.li, 0, d.pu, d.hl, d.S, d.Q⟩ rfl rfl b3 u3
          have b63 := ((b6.keep u1 n63).keep u2 n63).keep u3 n63
          have G3 := grown_far (grown_far (grown_far G u1 (fun q e => by have e := Option.some.inj e; omega)) u2 (fun q e => by have e := Option.some.inj e; omega)) u3 (fun q e => by have e := Option.some.inj e; omega)
          clear b1 b2 b3 u1 u2 u3
          clear v0 v1 v2 v3 v4 v5 v6 v7 v8 v9 v10 v11
          go_loopw [14, 15] (fun ov iv wr => ∃ (k : Nat) (oa' : Option Addr) (oc' : Nat) (os' : List Rw), ov = .slice oa' k oc' ∧ iv = .int .i64 k ∧ k ≤ Z.sn ∧ DW lo wr g3 ⟨d.cr, d.nx, d.ah, 0, d.pa, (d.tr + 1), d.li, 0, d.pu, d.hl, d.S, d.Q⟩ Z rs qs oa' k oc' os' (upL d.cr.toNat (d.nx - (d.S.length : Int)) (d.S.take k)) ∧ BxS wr g6 50 #[.int .i64 0, .int .i64 0, .int .i64 0, .slice none 0 0, .slice none 0 0, .int .i64 0, .int .i64 0, .int .i64 0, .int .i64 0, .int .i64 0, .int .i64 0, .int .i64 0] ∧ w.grownBy wr none) (fun _ iv _ => Z.sn - (intOf iv).toNat)
          case atStart => exact ⟨0, none, 0, [], rfl, by go_num, Nat.zero_le _, h3, b63, G3⟩
          case round =>
            obtain ⟨k, oa', oc', os', rfl, rfl, hkn, hr, b6r, Gr⟩ := hrel
            have bx3 := hr.box
            dsimp only at bx3
            by_cases hlt : k < Z.sn
            · have hlt' : (k : Int) < (Z.sn : Int) := by omega
              obtain ⟨gs, o1, cur, eq, _⟩ : ∃ gs o1 cur, Z.sa = some ⟨gs, o1, none⟩ ∧ cur = wz := by
                rcases hr.s.at' with ⟨_, h0, _⟩ | ⟨g, o, cur, e, _⟩
                · omega
                · exact ⟨g, o, wz, e, rfl⟩
              obtain ⟨r, hr0⟩ : ∃ r, rs[k]? = some r := ⟨_, List.getElem?_eq_getElem (by have := hr.s.len; omega)⟩
              have hrm : r ∈ rs := List.mem_of_getElem? hr0
              have eD : r.D = d.S.getD k [] := by
                have e1 : (rs.map Rw.D)[k]? = some r.D := by rw [List.getElem?_map, hr0]; rfl
                have e2 := hr.eS
                dsimp only at e2
                rw [e2] at e1
                rw [List.getD_eq_getElem?_getD, e1]; rfl
              have hFk := hk.fS k (by omega)
              rw [← eD, (hr.s.each r hrm).len] at hFk
              have HD' : Hid (r.D = d.S.getD k []) := eD
              obtain ⟨q, hq⟩ : ∃ q : Int, q = d.nx - (Z.sn : Int) + (k : Int) := ⟨_, rfl⟩
              have hnx := hk.nx
              have hq2 : -256 ≤ q ∧ q ≤ 1000 := by omega
              have HQ : Hid (q = d.nx - (d.S.length : Int) + (k : Int)) := by show _ = _; omega
              have hw1 : IntKind.i64.wrap (d.nx - (Z.sn : Int)) = d.nx - (Z.sn : Int) := wrap_in _ (by omega) (by omega)
              have hw2 : IntKind.i64.wrap (d.nx - (Z.sn : Int) + (k : Int)) = q := by rw [hq]; exact wrap_in _ (by omega) (by omega)
              have hwk : IntKind.i64.wrap ((k : Int) + 1) = (k : Int) + 1 := wrap_in _ (by omega) (by omega)
              have kU := fun wz (hR : Rd wz r.a r.n r.c r.D) => rup_any ⟨some ⟨gs, o1, none⟩, Z.sn, Z.sc, Z.qa, Z.qn, Z.qc⟩ ⟨d.cr, d.nx, d.ah, 0, d.pa, (d.tr + 1), d.li, 0, d.pu, d.hl, d.S, d.Q⟩ q r.a r.n r.c r.D wz hR hk.cr hq2 hFk
              dsimp only at kU
              clear eD hq
              have HEQ : Hid (Z.sa = some ⟨gs, o1, none⟩) := eq
              rw [eq] at bx3
              clear eq
              have hrd := hr.keep (grown_drew wr none)
              have SS : BxS wr.drew g3 50 #[.int .i64 d.cr, .int .i64 d.nx, .int .i64 d.ah, .slice (some ⟨gs, o1, none⟩) Z.sn Z.sc, .slice Z.qa Z.qn Z.qc, .int .i64 0, .int .i64 d.pa, .int .i64 (d.tr + 1), .int .i64 d.li, .int .i64 0, .int .i64 d.pu, .int .i64 d.hl] ∧ wr.drew.cell? ⟨gs, o1 + k, none⟩ = some (.slice r.a r.n r.c) := ⟨bx3.keep (grown_drew wr none) (by simp), hrd.s.kcell HEQ.out hr0⟩
              obtain ⟨v0, v1, v2, v3, v4, v5, v6, v7, v8, v9, v10, v11⟩ := bx3.cell12
              go_wp2
              refine wp_regionL (fun wz => BxS wz g3 50 #[.int .i64 d.cr, .int .i64 d.nx, .int .i64 d.ah, .slice (some ⟨gs, o1, none⟩) Z.sn Z.sc, .slice Z.qa Z.qn Z.qc, .int .i64 0, .int .i64 d.pa, .int .i64 (d.tr + 1), .int .i64 d.li, .int .i64 0, .int .i64 d.pu, .int .i64 d.hl] ∧ wz.cell? ⟨gs, o1 + k, none⟩ = some (.slice r.a r.n r.c)) [] #[false, false, false, false, false, false, false, false, false, false, false, false, false, false, false, false, false, false, false] rfl (by kernel_rfl) ?_
              refine wpAnyZ_take [] 0 (.slice oa' k oc') rfl (by kernel_rfl) (fun _ _ _ h => h) SS rfl (by rintro wz ⟨hz, hcl⟩; obtain ⟨z0, z1, z2, z3, z4, z5, z6, z7, z8, z9, z10, z11⟩ := hz.cell12; go_simp) ?_
              try simp only [List.getElem_toArray, List.getElem_cons_succ, List.getElem_cons_zero, Act.put, List.setIfInBounds_toArray, List.set_cons_zero, List.set_cons_succ]
              refine wpAnyZ_take [] 1 (.agg #[.int .i64 d.cr, .int .i64 d.nx, .int .i64 d.ah, .slice (some ⟨gs, o1, none⟩) Z.sn Z.sc, .slice Z.qa Z.qn Z.qc, .int .i64 0, .int .i64 d.pa, .int .i64 (d.tr + 1), .int .i64 d.li, .int .i64 0, .int .i64 d.pu, .int .i64 d.hl]) rfl (by kernel_rfl) (fun _ _ _ h => h) SS rfl (by rintro wz ⟨hz, hcl⟩; obtain ⟨z0, z1, z2, z3, z4, z5, z6, z7, z8, z9, z10, z11⟩ := hz.cell12; go_simp) ?_
              try simp only [List.getElem_toArray, List.getElem_cons_succ, List.getElem_cons_zero, Act.put, List.setIfInBounds_toArray, List.set_cons_zero, List.set_cons_succ]
              refine wpAnyZ_take [] 2 (.pointer (some ⟨g3, 1, none⟩)) rfl (by kernel_rfl) (fun _ _ _ h => h) SS rfl (by rintro wz ⟨hz, hcl⟩; obtain ⟨z0, z1, z2, z3, z4, z5, z6, z7, z8, z9, z10, z11⟩ := hz.cell12; go_simp) ?_
              try simp only [List.getElem_toArray, List.getElem_cons_succ, List.getElem_cons_zero, Act.put, List.setIfInBounds_toArray, List.set_cons_zero, List.set_cons_succ]
              refine wpAnyZ_take [] 3 (.int .i64 d.nx) rfl (by kernel_rfl) (fun _ _ _ h => h) SS rfl (by rintro wz ⟨hz, hcl⟩; obtain ⟨z0, z1, z2, z3, z4, z5, z6, z7, z8, z9, z10, z11⟩ := hz.cell12; go_simp) ?_
              try simp only [List.getElem_toArray, List.getElem_cons_succ, List.getElem_cons_zero, Act.put, List.setIfInBounds_toArray, List.set_cons_zero, List.set_cons_succ]
              refine wpAnyZ_take [] 4 (.pointer (some ⟨g3, 3, none⟩)) rfl (by kernel_rfl) (fun _ _ _ h => h) SS rfl (by rintro wz ⟨hz, hcl⟩; obtain ⟨z0, z1, z2, z3, z4, z5, z6, z7, z8, z9, z10, z11⟩ := hz.cell12; go_simp) ?_
              try simp only [List.getElem_toArray, List.getElem_cons_succ, List.getElem_cons_zero, Act.put, List.setIfInBounds_toArray, List.set_cons_zero, List.set_cons_succ]
              refine wpAnyZ_take [] 5 (.slice (some ⟨gs, o1, none⟩) Z.sn Z.sc) rfl (by kernel_rfl) (fun _ _ _ h => h) SS rfl (by rintro wz ⟨hz, hcl⟩; obtain ⟨z0, z1, z2, z3, z4, z5, z6, z7, z8, z9, z10, z11⟩ := hz.cell12; go_simp) ?_
              try simp only [List.getElem_toArray, List.getElem_cons_succ, List.getElem_cons_zero, Act.put, List.setIfInBounds_toArray, List.set_cons_zero, List.set_cons_succ]
              refine wpAnyZ_take [] 6 (.int .i64 (Z.sn : Int)) rfl (by kernel_rfl) (fun _ _ _ h => h) SS rfl (by rintro wz ⟨hz, hcl⟩; obtain ⟨z0, z1, z2, z3, z4, z5, z6, z7, z8, z9, z10, z11⟩ := hz.cell12; go_simp) ?_
              try simp only [List.getElem_toArray, List.getElem_cons_succ, List.getElem_cons_zero, Act.put, List.setIfInBounds_toArray, List.set_cons_zero, List.set_cons_succ]
              refine wpAnyZ_take [] 7 (.int .i64 (d.nx - (Z.sn : Int))) rfl (by kernel_rfl) (fun _ _ _ h => h) SS rfl (by rintro wz ⟨hz, hcl⟩; obtain ⟨z0, z1, z2, z3, z4, z5, z6, z7, z8, z9, z10, z11⟩ := hz.cell12; go_simp) ?_
              try simp only [List.getElem_toArray, List.getElem_cons_succ, List.getElem_cons_zero, Act.put, List.setIfInBounds_toArray, List.set_cons_zero, List.set_cons_succ]
              refine wpAnyZ_take [] 8 (.int .i64 (k : Int)) rfl (by kernel_rfl) (fun _ _ _ h => h) SS rfl (by rintro wz ⟨hz, hcl⟩; obtain ⟨z0, z1, z2, z3, z4, z5, z6, z7, z8, z9, z10, z11⟩ := hz.cell12; go_simp) ?_
              try simp only [List.getElem_toArray, List.getElem_cons_succ, List.getElem_cons_zero, Act.put, List.setIfInBounds_toArray, List.set_cons_zero, List.set_cons_succ]
              refine wpAnyZ_take [] 9 (.int .i64 q) rfl (by kernel_rfl) (fun _ _ _ h => h) SS rfl (by rintro wz ⟨hz, hcl⟩; obtain ⟨z0, z1, z2, z3, z4, z5, z6, z7, z8, z9, z10, z11⟩ := hz.cell12; go_simp) ?_
              try simp only [List.getElem_toArray, List.getElem_cons_succ, List.getElem_cons_zero, Act.put, List.setIfInBounds_toArray, List.set_cons_zero, List.set_cons_succ]
              refine wpAnyZ_take [] 10 (.pointer (some ⟨g3, 3, none⟩)) rfl (by kernel_rfl) (fun _ _ _ h => h) SS rfl (by rintro wz ⟨hz, hcl⟩; obtain ⟨z0, z1, z2, z3, z4, z5, z6, z7, z8, z9, z10, z11⟩ := hz.cell12; go_simp) ?_
              try simp only [List.getElem_toArray, List.getElem_cons_succ, List.getElem_cons_zero, Act.put, List.setIfInBounds_toArray, List.set_cons_zero, List.set_cons_succ]
              refine wpAnyZ_take [] 11 (.slice (some ⟨gs, o1, none⟩) Z.sn Z.sc) rfl (by kernel_rfl) (fun _ _ _ h => h) SS rfl (by rintro wz ⟨hz, hcl⟩; obtain ⟨z0, z1, z2, z3, z4, z5, z6, z7, z8, z9, z10, z11⟩ := hz.cell12; go_simp) ?_
              try simp only [List.getElem_toArray, List.getElem_cons_succ, List.getElem_cons_zero, Act.put, List.setIfInBounds_toArray, List.set_cons_zero, List.set_cons_succ]
              refine wpAnyZ_take [] 12 (.int .i64 (k : Int)) rfl (by kernel_rfl) (fun _ _ _ h => h) SS rfl (by rintro wz ⟨hz, hcl⟩; obtain ⟨z0, z1, z2, z3, z4, z5, z6, z7, z8, z9, z10, z11⟩ := hz.cell12; go_simp) ?_
              try simp only [List.getElem_toArray, List.getElem_cons_succ, List.getElem_cons_zero, Act.put, List.setIfInBounds_toArray, List.set_cons_zero, List.set_cons_succ]
              refine wpAnyZ_take [] 13 (.pointer (some ⟨gs, o1 + k, none⟩)) rfl (by kernel_rfl) (fun _ _ _ h => h) SS rfl (by rintro wz ⟨hz, hcl⟩; obtain ⟨z0, z1, z2, z3, z4, z5, z6, z7, z8, z9, z10, z11⟩ := hz.cell12; go_simp) ?_
              try simp only [List.getElem_toArray, List.getElem_cons_succ, List.getElem_cons_zero, Act.put, List.setIfInBounds_toArray, List.set_cons_zero, List.set_cons_succ]
              refine wpAnyZ_take [] 14 (.slice r.a r.n r.c) rfl (by kernel_rfl) (fun _ _ _ h => h) SS rfl (by rintro wz ⟨hz, hcl⟩; obtain ⟨z0, z1, z2, z3, z4, z5, z6, z7, z8, z9, z10, z11⟩ := hz.cell12; go_simp) ?_
              try simp only [List.getElem_toArray, List.getElem_cons_succ, List.getElem_cons_zero, Act.put, List.setIfInBounds_toArray, List.set_cons_zero, List.set_cons_succ]
              refine wpAnyZ_oneB 15 rfl (by kernel_rfl) (fun K hK => ?_)
              go_simp
              go_at_call 72
              refine (kU _ (hrd.s.each r hrm).rd).mono ?_
              rintro e w4 ⟨a4, n4, c4, rfl, hA4, y4⟩
              dsimp only
              have hr4 := hrd.keep y4
              have SS : BxS w4 g3 50 #[.int .i64 d.cr, .int .i64 d.nx, .int .i64 d.ah, .slice (some ⟨gs, o1, none⟩) Z.sn Z.sc, .slice Z.qa Z.qn Z.qc, .int .i64 0, .int .i64 d.pa, .int .i64 (d.tr + 1), .int .i64 d.li, .int .i64 0, .int .i64 d.pu, .int .i64 d.hl] ∧ w4.cell? ⟨gs, o1 + k, none⟩ = some (.slice r.a r.n r.c) := ⟨SS.1.keep y4 (by simp), hr4.s.kcell HEQ.out hr0⟩
              refine hK _ _ (fun _ => SS) ?_
              try simp only [List.getElem_toArray, List.getElem_cons_succ, List.getElem_cons_zero, Act.put, List.setIfInBounds_toArray, List.set_cons_zero, List.set_cons_succ]
              refine wpAnyZ_oneB 16 rfl (by kernel_rfl) (fun K hK => ?_)
              go_simp
              have yA := World.grownBy_alloc w4 (.cells #[.slice a4 n4 c4] 22) none
              have cA : (w4.alloc (.cells #[.slice a4 n4 c4] 22)).cell? ⟨w4.heap.size, 0, none⟩ = some (.slice a4 n4 c4) := (BxS.new w4 22 #[.slice a4 n4 c4]).cell 0 (by show 0 < 1; decide)
              have hr5 := hr4.keep yA
              have hA5 := (hA4.wide hrd.ll).keep yA
              have SS : BxS (w4.alloc (.cells #[.slice a4 n4 c4] 22)) g3 50 #[.int .i64 d.cr, .int .i64 d.nx, .int .i64 d.ah, .slice (some ⟨gs, o1, none⟩) Z.sn Z.sc, .slice Z.qa Z.qn Z.qc, .int .i64 0, .int .i64 d.pa, .int .i64 (d.tr + 1), .int .i64 d.li, .int .i64 0, .int .i64 d.pu, .int .i64 d.hl] ∧ (w4.alloc (.cells #[.slice a4 n4 c4] 22)).cell? ⟨gs, o1 + k, none⟩ = some (.slice r.a r.n r.c) := ⟨SS.1.keep yA (by simp), hr5.s.kcell HEQ.out hr0⟩
              have Y5 := grown_trans (grown_trans (grown_drew wr none) y4) yA
              have b65 := b6r.keep Y5 (by simp)
              have G5 := grown_trans Gr Y5
              refine hK _ _ (fun _ => SS) ?_
              try simp only [List.getElem_toArray, List.getElem_cons_succ, List.getElem_cons_zero, Act.put, List.setIfInBounds_toArray, List.set_cons_zero, List.set_cons_succ]
              generalize w4.alloc (.cells #[.slice a4 n4 c4] 22) = w5 at *
              refine wpAnyZ_oneB 17 rfl (by kernel_rfl) (fun K hK => ?_)
              refine step_psRO _ rfl _ _ rfl oa' k oc' lo os' rfl hr5.o hr5.ll (Rw.mk a4 n4 c4 (orL d.cr.toNat false false (q % 256).toNat r.D)) w4.heap.size hA5 cA rfl (by omega) ?_
              intro a6 c6 w6 rr ho6 y6 h61 h62
              have hr6 := hr5.push ho6 y6 h61 h62
              have b66 := b65.keep y6 (fun e => by have := (hr5.o.hlo (h61 g6 e.symm)).1; omega)
              have G6 := grown_far G5 y6 (fun q e => by have := (hr5.o.hlo (h61 q e)).1; have := hr5.gl; omega)
              have SS : BxS w6 g3 50 #[.int .i64 d.cr, .int .i64 d.nx, .int .i64 d.ah, .slice (some ⟨gs, o1, none⟩) Z.sn Z.sc, .slice Z.qa Z.qn Z.qc, .int .i64 0, .int .i64 d.pa, .int .i64 (d.tr + 1), .int .i64 d.li, .int .i64 0, .int .i64 d.pu, .int .i64 d.hl] ∧ w6.cell? ⟨gs, o1 + k, none⟩ = some (.slice r.a r.n r.c) := ⟨by have := hr6.box; dsimp only at this; rw [HEQ.out] at this; exact this, hr6.s.kcell HEQ.out hr0⟩
              refine hK _ _ (fun _ => SS) ?_
              try simp only [List.getElem_toArray, List.getElem_cons_succ, List.getElem_cons_zero, Act.put, List.setIfInBounds_toArray, List.set_cons_zero, List.set_cons_succ]
              refine wpAnyZ_take [] 18 (.slice a6 (k + 1) c6) rfl (by kernel_rfl) (fun _ _ _ h => h) SS rfl (by rintro wz ⟨hz, hcl⟩; obtain ⟨z0, z1, z2, z3, z4, z5, z6, z7, z8, z9, z10, z11⟩ := hz.cell12; go_simp) ?_
              try simp only [List.getElem_toArray, List.getElem_cons_succ, List.getElem_cons_zero, Act.put, List.setIfInBounds_toArray, List.set_cons_zero, List.set_cons_succ]
              refine wpAnyZ_doneB (by kernel_rfl) ?_ _
              have eu : upL d.cr.toNat (d.nx - (d.S.length : Int)) (d.S.take k) ++ [orL d.cr.toNat false false (q % 256).toNat r.D] = upL d.cr.toNat (d.nx - (d.S.length : Int)) (d.S.take (k + 1)) := by
                rw [take_one d.S k (by omega), upL_add, List.length_take, Nat.min_eq_left (by omega), HD'.out, HQ.out]
                rfl
              rw [eu] at hr6
              clear hrd hr4 hr5 hA4 hA5 cA b65 b6r kU Y5 yA y4 G5 Gr hr ho6 y6 h61 h62 hw1 hw2 eu
              clear v0 v1 v2 v3 v4 v5 v6 v7 v8 v9 v10 v11
              go_wp2
              go_roundw
              case rel => exact ⟨k + 1, a6, c6, _, rfl, by go_num, by omega, hr6, b66, G6⟩
              case measure => simp [intOf]; omega
            · have hlt' : ¬ (k : Int) < (Z.sn : Int) := by omega
              obtain rfl : k = Z.sn := by omega
              obtain ⟨v0, v1, v2, v3, v4, v5, v6, v7, v8, v9, v10, v11⟩ := bx3.cell12
              rw [List.take_of_length_le (by omega)] at hr
              go_wp2
              have hK2 := HKK.out
              rw [HV.out, HR.out] at hK2
              exact hK2 _ _ (so_t39 w _ lo g3 g6 ⟨d.cr, d.nx, d.ah, 0, d.pa, (d.tr + 1), d.li, 0, d.pu, d.hl, d.S, d.Q⟩ Z rs qs oa' Z.sn oc' os' (upL d.cr.toNat (d.nx - (d.S.length : Int)) d.S) wt hr b6r h36 hw3 Gr ⟨hk.cr, hk.nx, hk.ah, hk.q, hk.fS, hk.fQ⟩ (by omega))

theorem tk_saF {d d2 : Hd} {z : Int} {b : Bool} (hB : tkB d z b = d2) (h0 : d2.hl = 0) : tkD d z b = saF d2 (tkG z b 12) (tkG z b 11) ∧ tkU d z b = saFU d2 (tkG z b 12) (tkG z b 11) := by
  unfold tkD tkU tkO tkC tkCU saF saFU sfD sfU
  rw [hB, if_pos h0, if_pos h0]
  by_cases h : (saD d2 (tkG z b 12) (tkG z b 11)).hl = 0
  · rw [decide_eq_true h, if_pos h, if_pos h]
    cases tkG z b 12 <;> exact ⟨rfl, rfl⟩
  · rw [decide_eq_false h, if_neg h, if_neg h]
    exact ⟨rfl, rfl⟩
theorem tk_halt {d d2 : Hd} {z : Int} {b : Bool} (hB : tkB d z b = d2) (h0 : d2.hl ≠ 0) : tkD d z b = d2 ∧ tkU d z b = [] := by
  unfold tkD tkU tkO tkC tkCU
  rw [hB, if_neg h0, if_neg h0, decide_eq_false h0]
  exact ⟨rfl, rfl⟩
set_option maxHeartbeats 64000000 in
theorem so_t24 {u0 u1 u2 u4 u5 u7 u8 u11 u12 u13 u14 u15 u16 u17 u18 u19 u20 u21 u22 u23 u24 u25 u26 u27 u28 u29 u30 u31 u32 u33 u34 u35 u36 u37 u38 u39 u40 u41 u42 u43 u44 u45 u46 u47 u48 u49 u50 u51 u52 u53 u54 u55 u56 u57 u58 u59 u60 u61 u62 u63 u64 u65 u66 u67 u68 u69 u70 u71 u72 u73 u74 u75 u76 u77 u78 u79 u80 u81 u82 u83 u84 u85 u86 u87 u88 u89 u90 u91 u92 u93 u94 u95 u96 u97 u98 u99 u100 u101 u102 u103 u104 u105 u106 u107 u108 u109 u110 u111 u112 u113 u114 u115 u116 u117 u118 u119 u120 u121 u122 u123 u124 u125 u126 u127 u128 u129 u130 u131 u132 u133 u134 u135 u136 u137 u138 u139 u140 u141 u142 u143 u144 u145 u146 u147 u148 u149 u150 u151 u152 u153 u154 u155 u156 u157 u158 u159 u160 u161 u162 u163 u164 u165 u166 u167 u168 u169 u170 u171 u172 u173 u174 u175 u176 u177 u178 u179 u180 u181 u182 u183 u184 u185 u186 u187 u188 u189 u190 u191 u192 u193 u194 : Value} (w wz : World) (lo g3 g6 : Nat) (d : Hd) (Z : Hx) (rs qs : List Rw) (wt ag bb : Bool) (hbb : saW d wt ag = bb) (h : DW lo wz g3 d Z rs qs none 0 0 [] []) (b6 : BxS wz g6 50 #[.int .i64 0, .int .i64 0, .int .i64 0, .slice none 0 0, .slice none 0 0, .int .i64 0, .int .i64 0, .int .i64 0, .int .i64 0, .int .i64 0, .int .i64 0, .int .i64 0]) (h36 : g3 < g6 ∧ g6 < lo) (hw3 : w.heap.size ≤ g3) (G : w.grownBy wz none) (hk : Hk2 d) (hh : d.hl = 0) (htp : d.ti + 1 ≤ d.pa) :
    Code.wp Try.prog (tailR 24 (Try.f38.body.getD .skip)) (bodyPost Try.prog Try.f38 (fun e w' => ∃ (P1 : Hx) (xa : Option Addr) (xn xc : Nat), e = .returned (.tuple #[.agg #[.int .i64 (saF d wt ag).cr, .int .i64 (saF d wt ag).nx, .int .i64 (saF d wt ag).ah, .slice P1.sa P1.sn P1.sc, .slice P1.qa P1.qn P1.qc, .int .i64 (saF d wt ag).ti, .int .i64 (saF d wt ag).pa, .int .i64 (saF d wt ag).tr, .int .i64 (saF d wt ag).li, .int .i64 (saF d wt ag).si, .int .i64 (saF d wt ag).pu, .int .i64 (saF d wt ag).hl], .slice xa xn xc, .int .i64 0]) ∧ RdHd w' P1 (saF d wt ag) ∧ RdW w' xa xn xc (saFU d wt ag) ∧ w.grownBy w' none)) (Act.mk (List.toArray (u0 :: u1 :: u2 :: (.pointer (some ⟨g3, 0, none⟩)) :: u4 :: u5 :: (.pointer (some ⟨g6, 0, none⟩)) :: u7 :: u8 :: (.bool wt) :: (.bool bb) :: u11 :: u12 :: u13 :: u14 :: u15 :: u16 :: u17 :: u18 :: u19 :: u20 :: u21 :: u22 :: u23 :: u24 :: u25 :: u26 :: u27 :: u28 :: u29 :: u30 :: u31 :: u32 :: u33 :: u34 :: u35 :: u36 :: u37 :: u38 :: u39 :: u40 :: u41 :: u42 :: u43 :: u44 :: u45 :: u46 :: u47 :: u48 :: u49 :: u50 :: u51 :: u52 :: u53 :: u54 :: u55 :: u56 :: u57 :: u58 :: u59 :: u60 :: u61 :: u62 :: u63 :: u64 :: u65 :: u66 :: u67 :: u68 :: u69 :: u70 :: u71 :: u72 :: u73 :: u74 :: u75 :: u76 :: u77 :: u78 :: u79 :: u80 :: u81 :: u82 :: u83 :: u84 :: u85 :: u86 :: u87 :: u88 :: u89 :: u90 :: u91 :: u92 :: u93 :: u94 :: u95 :: u96 :: u97 :: u98 :: u99 :: u100 :: u101 :: u102 :: u103 :: u104 :: u105 :: u106 :: u107 :: u108 :: u109 :: u110 :: u111 :: u112 :: u113 :: u114 :: u115 :: u116 :: u117 :: u118 :: u119 :: u120 :: u121 :: u122 :: u123 :: u124 :: u125 :: u126 :: u127 :: u128 :: u129 :: u130 :: u131 :: u132 :: u133 :: u134 :: u135 :: u136 :: u137 :: u138 :: u139 :: u140 :: u141 :: u142 :: u143 :: u144 :: u145 :: u146 :: u147 :: u148 :: u149 :: u150 :: u151 :: u152 :: u153 :: u154 :: u155 :: u156 :: u157 :: u158 :: u159 :: u160 :: u161 :: u162 :: u163 :: u164 :: u165 :: u166 :: u167 :: u168 :: u169 :: u170 :: u171 :: u172 :: u173 :: u174 :: u175 :: u176 :: u177 :: u178 :: u179 :: u180 :: u181 :: u182 :: u183 :: u184 :: u185 :: u186 :: u187 :: u188 :: u189 :: u190 :: u191 :: u192 :: u193 :: u194 :: [])) []) wz := by
  conv => enter [2]; whnf
  refine wp_seq_k fun KK hKK => ?_
  have HKK : Hid _ := hKK
  clear hKK
  go_wp2
  exact HKK.out _ _ (so_t25 w wz lo g3 g6 d Z rs qs wt ag bb hbb h b6 h36 hw3 G hk hh htp)
set_option maxHeartbeats 64000000 in
theorem so_t10 {u0 u1 u4 u5 u7 u8 u13 u14 u15 u16 u17 u18 u19 u20 u21 u22 u23 u24 u25 u26 u27 u28 u29 u30 u31 u32 u33 u34 u35 u36 u37 u38 u39 u40 u41 u42 u43 u44 u45 u46 u47 u48 u49 u50 u51 u52 u53 u54 u55 u56 u57 u58 u59 u60 u61 u62 u63 u64 u65 u66 u67 u68 u69 u70 u71 u72 u73 u74 u75 u76 u77 u78 u79 u80 u81 u82 u83 u84 u85 u86 u87 u88 u89 u90 u91 u92 u93 u94 u95 u96 u97 u98 u99 u100 u101 u102 u103 u104 u105 u106 u107 u108 u109 u110 u111 u112 u113 u114 u115 u116 u117 u118 u119 u120 u121 u122 u123 u124 u125 u126 u127 u128 u129 u130 u131 u132 u133 u134 u135 u136 u137 u138 u139 u140 u141 u142 u143 u144 u145 u146 u147 u148 u149 u150 u151 u152 u153 u154 u155 u156 u157 u158 u159 u160 u161 u162 u163 u164 u165 u166 u167 u168 u169 u170 u171 u172 u173 u174 u175 u176 u177 u178 u179 u180 u181 u182 u183 u184 u185 u186 u187 u188 u189 u190 u191 u192 u193 u194 : Value} (w wz : World) (lo g3 g6 gg : Nat) (d d1 : Hd) (Z : Hx) (rs qs : List Rw) (z : Int) (b sh wt ag : Bool) (N C E : Nat) (hA : tkA d = d1) (hN : stN z = N) (hsh : stB z 13 = sh) (hwt : stB z 12 = wt) (hag : stB z 11 = ag) (hEE : stE z = E)
    (h : DW lo wz g3 d1 Z rs qs none 0 0 [] []) (b6 : BxS wz g6 50 #[.int .i64 0, .int .i64 0, .int .i64 0, .slice none 0 0, .slice none 0 0, .int .i64 0, .int .i64 0, .int .i64 0, .int .i64 0, .int .i64 0, .int .i64 0, .int .i64 0]) (bg : BxS wz gg 38 #[.int .i64 0, .int .i64 (N : Int), .int .i64 0, .bool sh, .bool wt, .bool ag, .int .i64 (C : Int)]) (h36 : g3 < g6 ∧ g6 < lo) (hgg : lo ≤ gg) (hw3 : w.heap.size ≤ g3) (G : w.grownBy wz none) (hk : Hk2 d1) (hh : d1.hl = 0) (htp : d1.ti + 1 ≤ d1.pa) (hp1 : 1 ≤ d1.pa) :
    Code.wp Try.prog (tailR 10 (Try.f38.body.getD .skip)) (bodyPost Try.prog Try.f38 (fun e w' => ∃ (P1 : Hx) (xa : Option Addr) (xn xc : Nat), e = .returned (.tuple #[.agg #[.int .i64 (tkD d z b).cr, .int .i64 (tkD d z b).nx, .int .i64 (tkD d z b).ah, .slice P1.sa P1.sn P1.sc, .slice P1.qa P1.qn P1.qc, .int .i64 (tkD d z b).ti, .int .i64 (tkD d z b).pa, .int .i64 (tkD d z b).tr, .int .i64 (tkD d z b).li, .int .i64 (tkD d z b).si, .int .i64 (tkD d z b).pu, .int .i64 (tkD d z b).hl], .slice xa xn xc, .int .i64 0]) ∧ RdHd w' P1 (tkD d z b) ∧ RdW w' xa xn xc (tkU d z b) ∧ w.grownBy w' none)) (Act.mk (List.toArray (u0 :: u1 :: (.bool b) :: (.pointer (some ⟨g3, 0, none⟩)) :: u4 :: u5 :: (.pointer (some ⟨g6, 0, none⟩)) :: u7 :: u8 :: (.bool false) :: (.bool false) :: (.pointer (some ⟨gg, 0, none⟩)) :: (.int .i64 (E : Int)) :: u13 :: u14 :: u15 :: u16 :: u17 :: u18 :: u19 :: u20 :: u21 :: u22 :: u23 :: u24 :: u25 :: u26 :: u27 :: u28 :: u29 :: u30 :: u31 :: u32 :: u33 :: u34 :: u35 :: u36 :: u37 :: u38 :: u39 :: u40 :: u41 :: u42 :: u43 :: u44 :: u45 :: u46 :: u47 :: u48 :: u49 :: u50 :: u51 :: u52 :: u53 :: u54 :: u55 :: u56 :: u57 :: u58 :: u59 :: u60 :: u61 :: u62 :: u63 :: u64 :: u65 :: u66 :: u67 :: u68 :: u69 :: u70 :: u71 :: u72 :: u73 :: u74 :: u75 :: u76 :: u77 :: u78 :: u79 :: u80 :: u81 :: u82 :: u83 :: u84 :: u85 :: u86 :: u87 :: u88 :: u89 :: u90 :: u91 :: u92 :: u93 :: u94 :: u95 :: u96 :: u97 :: u98 :: u99 :: u100 :: u101 :: u102 :: u103 :: u104 :: u105 :: u106 :: u107 :: u108 :: u109 :: u110 :: u111 :: u112 :: u113 :: u114 :: u115 :: u116 :: u117 :: u118 :: u119 :: u120 :: u121 :: u122 :: u123 :: u124 :: u125 :: u126 :: u127 :: u128 :: u129 :: u130 :: u131 :: u132 :: u133 :: u134 :: u135 :: u136 :: u137 :: u138 :: u139 :: u140 :: u141 :: u142 :: u143 :: u144 :: u145 :: u146 :: u147 :: u148 :: u149 :: u150 :: u151 :: u152 :: u153 :: u154 :: u155 :: u156 :: u157 :: u158 :: u159 :: u160 :: u161 :: u162 :: u163 :: u164 :: u165 :: u166 :: u167 :: u168 :: u169 :: u170 :: u171 :: u172 :: u173 :: u174 :: u175 :: u176 :: u177 :: u178 :: u179 :: u180 :: u181 :: u182 :: u183 :: u184 :: u185 :: u186 :: u187 :: u188 :: u189 :: u190 :: u191 :: u192 :: u193 :: u194 :: [])) []) wz := by
  let pq : Exit → Act → World → Prop := bodyPost Try.prog Try.f38 (fun _ _ => True)
  conv => enter [2]; whnf
  refine wp_seq_k fun KK hKK => ?_
  have HKK : Hid _ := hKK
  clear hKK
  have i12 := Try.info_hn3
  have hN2 := stN_lt z
  have HA : Hid (tkA d = d1) := hA
  have HHN : Hid (stN z = N) := hN
  have HSH : Hid (stB z 13 = sh) := hsh
  have HWT : Hid (stB z 12 = wt) := hwt
  have HAG : Hid (stB z 11 = ag) := hag
  have HEE : Hid (stE z = E) := hEE
  have HH : Hid (d1.hl = 0) := hh
  rw [hN] at hN2
  clear hA hN hsh hwt hag hEE hh
  have n63 : some g6 ≠ some g3 := fun e => by have e := Option.some.inj e; omega
  have ng3 : some gg ≠ some g3 := fun e => by have e := Option.some.inj e; omega
  by_cases hH : tkH z b = true
  · have hb : b = true ∧ E = 0 := by
      unfold tkH at hH
      rw [HEE.out, Bool.and_eq_true, decide_eq_true_eq] at hH
      exact hH
    obtain ⟨rfl, rfl⟩ := hb
    have HH2 : Hid (tkH z true = true) := hH
    clear hH
    have HG12 : Hid (tkG z true 12 = wt) := by show _ = _; unfold tkG; rw [HH2.out, HWT.out]; rfl
    have HG11 : Hid (tkG z true 11 = ag) := by show _ = _; unfold tkG; rw [HH2.out, HAG.out]; rfl
    obtain ⟨m, hm⟩ : ∃ m : Nat, stM d1 N = m := ⟨_, rfl⟩
    have HB : Hid (tkB d z true = seD d1 m sh) := by show _ = _; unfold tkB; rw [if_pos HH2.out, HA.out, HHN.out, HSH.out, hm]
    have lS := h.lS
    have hnx := hk.nx
    have hah := hk.ah
    have hm256 : m < 256 := by unfold stM at hm; omega
    have hmv : ((N : Int) - (d1.nx - (Z.sn : Int)) + 512).tmod 256 = (m : Int) := by
      rw [Int.tmod_eq_emod_of_nonneg (by omega)]
      unfold stM at hm
      omega
    have hw1 : IntKind.i64.wrap (d1.nx - (Z.sn : Int)) = d1.nx - (Z.sn : Int) := wrap_in _ (by omega) (by omega)
    have hw2 : IntKind.i64.wrap ((N : Int) - (d1.nx - (Z.sn : Int))) = (N : Int) - (d1.nx - (Z.sn : Int)) := wrap_in _ (by omega) (by omega)
    have hw3' : IntKind.i64.wrap ((N : Int) - (d1.nx - (Z.sn : Int)) + 512) = (N : Int) - (d1.nx - (Z.sn : Int)) + 512 := wrap_in _ (by omega) (by omega)
    have hw4 : IntKind.i64.wrap (m : Int) = (m : Int) := wrap_in _ (by omega) (by omega)
    clear hm
    have bx := h.box
    obtain ⟨v0, v1, v2, v3, v4, v5, v6, v7, v8, v9, v10, v11⟩ := bx.cell12
    obtain ⟨q0, q1, q2, q3, q4, q5, q6⟩ := bg.cell7
    have s1 : True := trivial
    by_cases hlt : Z.sn < m
    · have hlt' : (Z.sn : Int) < (m : Int) := by omega
      obtain ⟨eV, eR⟩ := tk_halt (d2 := ⟨d1.cr, d1.nx, d1.ah, d1.ti, d1.pa, d1.tr, d1.li, d1.si, d1.pu, 11, d1.S, d1.Q⟩) (by rw [HB.out]; unfold seD; rw [if_pos (by omega)]) (by show (11 : Int) ≠ 0; decide)
      have HV : Hid _ := eV
      have HR : Hid _ := eR
      clear eV eR
      go_wp2_with (first
        | (have _t := s1; clear s1; refine wpList_stC _ rfl _ _ _ rfl g3 11 50 _ #[.int .i64 d1.cr, .int .i64 d1.nx, .int .i64 d1.ah, .slice Z.sa Z.sn Z.sc, .slice Z.qa Z.qn Z.qc, .int .i64 d1.ti, .int .i64 d1.pa, .int .i64 d1.tr, .int .i64 d1.li, .int .i64 d1.si, .int .i64 d1.pu, .int .i64 11] (.int .i64 11) rfl rfl bx (stc_err _ _ _) (by show 11 < 12; decide) rfl ?_; intro w1 b1 u1; clear v0 v1 v2 v3 v4 v5 v6 v7 v8 v9 v10 v11; obtain ⟨v0, v1, v2, v3, v4, v5, v6, v7, v8, v9, v10, v11⟩ := b1.cell12; have b61 := b6.keep u1 n63; have s2 : True := trivial)
        | (have _t := s2; clear s2; refine wpList_stX _ rfl _ (.tmp 6) (.tmp 62) rfl g6 _ _ rfl rfl b61 i12 rfl (by simp [Value.oneCell']) ?_; intro w9 b9 u9))
      refine bodyPost_ret (results_cell3 rfl _ _ _ ⟨g6, 0, none⟩ _ (.slice none 0 0) (.int .i64 0) rfl (BxS.load (t := 50) b9 Try.underlying50 i12) rfl rfl) rfl ?_
      have h9 := (h.setI ⟨d1.cr, d1.nx, d1.ah, d1.ti, d1.pa, d1.tr, d1.li, d1.si, d1.pu, 11, d1.S, d1.Q⟩ rfl rfl b1 u1).far g6 _ b61 h36.2 (by omega) u9
      rw [HV.out, HR.out]
      exact ⟨Z, none, 0, 0, rfl, h9.rd.1, RdW.nil _, grown_far (grown_far G u1 (fun q e => by have e := Option.some.inj e; omega)) u9 (fun q e => by have e := Option.some.inj e; omega)⟩
    · have hlt' : ¬ (Z.sn : Int) < (m : Int) := by omega
      go_upto_region 15 with fail
      go_cut [] from 63 to 67 (fun wy => ∃ (Z2 : Hx) (rs2 : List Rw), DW lo wy g3 ⟨d1.cr, d1.nx, d1.ah, d1.ti, d1.pa, d1.tr, d1.li, d1.si, d1.pu, d1.hl, (d1.S.drop m), d1.Q⟩ Z2 rs2 qs none 0 0 [] [] ∧ wz.grownBy wy (some g3))
      case first =>
        clear hw1 hw2 hw3' hmv
        have hS := h.s
        have hx := hS.max
        have hsl1 : (m : Int) ≤ (Z.sn : Int) := by omega
        have hsl2 : (Z.sn : Int) ≤ (Z.sc : Int) := by omega
        rcases hS.at' with ⟨e0, e1, e2⟩ | ⟨gs, o1, cur, e0, _⟩
        · obtain rfl : m = 0 := by omega
          rw [e0, e1, e2] at v3 bx
          have HE : Hid (Z.sa = none ∧ Z.sn = 0 ∧ Z.sc = 0) := ⟨e0, e1, e2⟩
          clear e0 e1 e2
          go_wp2_with (have _t := s1; clear s1; refine wpList_stC _ rfl _ _ _ rfl g3 3 50 _ #[.int .i64 d1.cr, .int .i64 d1.nx, .int .i64 d1.ah, .slice none 0 0, .slice Z.qa Z.qn Z.qc, .int .i64 d1.ti, .int .i64 d1.pa, .int .i64 d1.tr, .int .i64 d1.li, .int .i64 d1.si, .int .i64 d1.pu, .int .i64 d1.hl] (.slice none 0 0) rfl rfl bx (stc_rows _ _ _ _ _) (by show 3 < 12; decide) rfl ?_; intro w1 b1 u1; skip)
          go_meet
          rw [List.drop_zero]
          exact ⟨Z, rs, h.setI d1 rfl rfl (by rw [HE.out.1, HE.out.2.1, HE.out.2.2]; exact b1) u1, u1⟩
        · have HE0 : Hid (Z.sa = some ⟨gs, o1, none⟩) := e0
          rw [e0] at v3 bx hS
          clear e0
          by_cases hcm : Z.sc = m
          · rw [hcm] at v3 bx
            have HCM : Hid (Z.sc = m) := hcm
            clear hcm
            go_wp2_with (have _t := s1; clear s1; refine wpList_stC _ rfl _ _ _ rfl g3 3 50 _ #[.int .i64 d1.cr, .int .i64 d1.nx, .int .i64 d1.ah, .slice (some ⟨gs, o1, none⟩) (Z.sn - m) 0, .slice Z.qa Z.qn Z.qc, .int .i64 d1.ti, .int .i64 d1.pa, .int .i64 d1.tr, .int .i64 d1.li, .int .i64 d1.si, .int .i64 d1.pu, .int .i64 d1.hl] (.slice (some ⟨gs, o1, none⟩) (Z.sn - m) 0) rfl rfl bx (stc_rows _ _ _ _ _) (by show 3 < 12; decide) rfl ?_; intro w1 b1 u1; skip)
            go_meet
            exact ⟨_, _, h.cutS gs o1 o1 0 m HE0.out (hS.tail0 m (by omega) HCM.out) b1 u1, u1⟩
          · go_wp2_with (have _t := s1; clear s1; refine wpList_stC _ rfl _ _ _ rfl g3 3 50 _ #[.int .i64 d1.cr, .int .i64 d1.nx, .int .i64 d1.ah, .slice (some ⟨gs, o1 + m, none⟩) (Z.sn - m) (Z.sc - m), .slice Z.qa Z.qn Z.qc, .int .i64 d1.ti, .int .i64 d1.pa, .int .i64 d1.tr, .int .i64 d1.li, .int .i64 d1.si, .int .i64 d1.pu, .int .i64 d1.hl] (.slice (some ⟨gs, o1 + m, none⟩) (Z.sn - m) (Z.sc - m)) rfl rfl bx (stc_rows _ _ _ _ _) (by show 3 < 12; decide) rfl ?_; intro w1 b1 u1; skip)
            go_meet
            exact ⟨_, _, h.cutS gs o1 (o1 + m) (Z.sc - m) m HE0.out (hS.tail m (by omega)) b1 u1, u1⟩
      case rest =>
      obtain ⟨Z2, rs2, h2, u2⟩ := hcut
      generalize wc = w2 at *
      apply_assumption
      have b62 := b6.keep u2 n63
      have bg2 := bg.keep u2 ng3
      have G2 := grown_far G u2 (fun q e => by have e := Option.some.inj e; omega)
      clear hw1 hw2 hw3' hmv q0 q1 q2 q3 q4 q5 q6 bx
      clear v0 v1 v2 v3 v4 v5 v6 v7 v8 v9 v10 v11
      have bx := h2.box
      dsimp only at bx
      obtain ⟨v0, v1, v2, v3, v4, v5, v6, v7, v8, v9, v10, v11⟩ := bx.cell12
      obtain ⟨q0, q1, q2, q3, q4, q5, q6⟩ := bg2.cell7
      by_cases hmp : 0 < m
      · have hm0 : (0 : Int) < (m : Int) := by omega
        cases sh
        · have eB : seD d1 m false = ⟨d1.cr, d1.nx, d1.ah, 0, d1.pa, 0, d1.li, d1.si, d1.pu, d1.hl, (d1.S.drop m), d1.Q⟩ := by unfold seD; rw [if_neg (by omega), if_pos (by omega)]; rfl
          have hk4 : Hk2 ⟨d1.cr, d1.nx, d1.ah, 0, d1.pa, 0, d1.li, d1.si, d1.pu, d1.hl, (d1.S.drop m), d1.Q⟩ := by rw [← eB]; exact hk.seD m false
          obtain ⟨eV, eR⟩ := tk_saF (d := d) (z := z) (b := true) (d2 := ⟨d1.cr, d1.nx, d1.ah, 0, d1.pa, 0, d1.li, d1.si, d1.pu, d1.hl, (d1.S.drop m), d1.Q⟩) (by rw [HB.out, eB]) HH.out
          rw [HG12.out, HG11.out] at eV eR
          have hK2 := HKK.out
          rw [eV, eR] at hK2
          have HK2 : Hid _ := hK2
          clear eV eR hK2 eB
          cases ag
          · go_wp2_with (first
              | (have _t := s1; clear s1; refine wpList_stC _ rfl _ _ _ rfl g3 5 50 _ #[.int .i64 d1.cr, .int .i64 d1.nx, .int .i64 d1.ah, .slice Z2.sa Z2.sn Z2.sc, .slice Z2.qa Z2.qn Z2.qc, .int .i64 0, .int .i64 d1.pa, .int .i64 d1.tr, .int .i64 d1.li, .int .i64 d1.si, .int .i64 d1.pu, .int .i64 d1.hl] (.int .i64 0) rfl rfl bx (stc_int _ _ _) (by show 5 < 12; decide) rfl ?_; intro w3 b3 u3; have s2 : True := trivial)
              | (have _t := s2; clear s2; refine wpList_stC _ rfl _ _ _ rfl g3 7 50 _ #[.int .i64 d1.cr, .int .i64 d1.nx, .int .i64 d1.ah, .slice Z2.sa Z2.sn Z2.sc, .slice Z2.qa Z2.qn Z2.qc, .int .i64 0, .int .i64 d1.pa, .int .i64 0, .int .i64 d1.li, .int .i64 d1.si, .int .i64 d1.pu, .int .i64 d1.hl] (.int .i64 0) rfl rfl b3 (stc_int _ _ _) (by show 7 < 12; decide) rfl ?_; intro w4 b4 u4; clear v0 v1 v2 v3 v4 v5 v6 v7 v8 v9 v10 v11; obtain ⟨v0, v1, v2, v3, v4, v5, v6, v7, v8, v9, v10, v11⟩ := b4.cell12; have h4 := (h2.setI ⟨d1.cr, d1.nx, d1.ah, 0, d1.pa, d1.tr, d1.li, d1.si, d1.pu, d1.hl, (d1.S.drop m), d1.Q⟩ rfl rfl b3 u3).setI ⟨d1.cr, d1.nx, d1.ah, 0, d1.pa, 0, d1.li, d1.si, d1.pu, d1.hl, (d1.S.drop m), d1.Q⟩ rfl rfl b4 u4; have b64 := (b62.keep u3 n63).keep u4 n63; have bg4 := (bg2.keep u3 ng3).keep u4 ng3; have G4 := grown_far (grown_far G2 u3 (fun q e => by have e := Option.some.inj e; omega)) u4 (fun q e => by have e := Option.some.inj e; omega); clear q0 q1 q2 q3 q4 q5 q6; obtain ⟨q0, q1, q2, q3, q4, q5, q6⟩ := bg4.cell7; have s3 : True := trivial))
            exact HK2.out _ _ (so_t24 w _ lo g3 g6 ⟨d1.cr, d1.nx, d1.ah, 0, d1.pa, 0, d1.li, d1.si, d1.pu, d1.hl, (d1.S.drop m), d1.Q⟩ Z2 rs2 qs wt false false rfl h4 b64 h36 hw3 G4 hk4 HH.out (by show (0 : Int) + 1 ≤ d1.pa; omega))
          · cases wt
            · by_cases hsp : d1.si = d1.pu
              · have HSP : Hid (d1.si = d1.pu) := hsp
                have hsp' : (d1.si == d1.pu) = true := by rw [hsp]; simp
                clear hsp
                go_wp2_with (first
                  | (have _t := s1; clear s1; refine wpList_stC _ rfl _ _ _ rfl g3 5 50 _ #[.int .i64 d1.cr, .int .i64 d1.nx, .int .i64 d1.ah, .slice Z2.sa Z2.sn Z2.sc, .slice Z2.qa Z2.qn Z2.qc, .int .i64 0, .int .i64 d1.pa, .int .i64 d1.tr, .int .i64 d1.li, .int .i64 d1.si, .int .i64 d1.pu, .int .i64 d1.hl] (.int .i64 0) rfl rfl bx (stc_int _ _ _) (by show 5 < 12; decide) rfl ?_; intro w3 b3 u3; have s2 : True := trivial)
                  | (have _t := s2; clear s2; refine wpList_stC _ rfl _ _ _ rfl g3 7 50 _ #[.int .i64 d1.cr, .int .i64 d1.nx, .int .i64 d1.ah, .slice Z2.sa Z2.sn Z2.sc, .slice Z2.qa Z2.qn Z2.qc, .int .i64 0, .int .i64 d1.pa, .int .i64 0, .int .i64 d1.li, .int .i64 d1.si, .int .i64 d1.pu, .int .i64 d1.hl] (.int .i64 0) rfl rfl b3 (stc_int _ _ _) (by show 7 < 12; decide) rfl ?_; intro w4 b4 u4; clear v0 v1 v2 v3 v4 v5 v6 v7 v8 v9 v10 v11; obtain ⟨v0, v1, v2, v3, v4, v5, v6, v7, v8, v9, v10, v11⟩ := b4.cell12; have h4 := (h2.setI ⟨d1.cr, d1.nx, d1.ah, 0, d1.pa, d1.tr, d1.li, d1.si, d1.pu, d1.hl, (d1.S.drop m), d1.Q⟩ rfl rfl b3 u3).setI ⟨d1.cr, d1.nx, d1.ah, 0, d1.pa, 0, d1.li, d1.si, d1.pu, d1.hl, (d1.S.drop m), d1.Q⟩ rfl rfl b4 u4; have b64 := (b62.keep u3 n63).keep u4 n63; have bg4 := (bg2.keep u3 ng3).keep u4 ng3; have G4 := grown_far (grown_far G2 u3 (fun q e => by have e := Option.some.inj e; omega)) u4 (fun q e => by have e := Option.some.inj e; omega); clear q0 q1 q2 q3 q4 q5 q6; obtain ⟨q0, q1, q2, q3, q4, q5, q6⟩ := bg4.cell7; have s3 : True := trivial))
                exact HK2.out _ _ (so_t24 w _ lo g3 g6 ⟨d1.cr, d1.nx, d1.ah, 0, d1.pa, 0, d1.li, d1.si, d1.pu, d1.hl, (d1.S.drop m), d1.Q⟩ Z2 rs2 qs false true true (by unfold saW; rw [decide_eq_true HSP.out]; rfl) h4 b64 h36 hw3 G4 hk4 HH.out (by show (0 : Int) + 1 ≤ d1.pa; omega))
              · have HSP : Hid (¬ d1.si = d1.pu) := hsp
                have hsp' : (d1.si == d1.pu) = false := beq_false_of_ne hsp
                go_wp2_with (first
                  | (have _t := s1; clear s1; refine wpList_stC _ rfl _ _ _ rfl g3 5 50 _ #[.int .i64 d1.cr, .int .i64 d1.nx, .int .i64 d1.ah, .slice Z2.sa Z2.sn Z2.sc, .slice Z2.qa Z2.qn Z2.qc, .int .i64 0, .int .i64 d1.pa, .int .i64 d1.tr, .int .i64 d1.li, .int .i64 d1.si, .int .i64 d1.pu, .int .i64 d1.hl] (.int .i64 0) rfl rfl bx (stc_int _ _ _) (by show 5 < 12; decide) rfl ?_; intro w3 b3 u3; have s2 : True := trivial)
                  | (have _t := s2; clear s2; refine wpList_stC _ rfl _ _ _ rfl g3 7 50 _ #[.int .i64 d1.cr, .int .i64 d1.nx, .int .i64 d1.ah, .slice Z2.sa Z2.sn Z2.sc, .slice Z2.qa Z2.qn Z2.qc, .int .i64 0, .int .i64 d1.pa, .int .i64 0, .int .i64 d1.li, .int .i64 d1.si, .int .i64 d1.pu, .int .i64 d1.hl] (.int .i64 0) rfl rfl b3 (stc_int _ _ _) (by show 7 < 12; decide) rfl ?_; intro w4 b4 u4; clear v0 v1 v2 v3 v4 v5 v6 v7 v8 v9 v10 v11; obtain ⟨v0, v1, v2, v3, v4, v5, v6, v7, v8, v9, v10, v11⟩ := b4.cell12; have h4 := (h2.setI ⟨d1.cr, d1.nx, d1.ah, 0, d1.pa, d1.tr, d1.li, d1.si, d1.pu, d1.hl, (d1.S.drop m), d1.Q⟩ rfl rfl b3 u3).setI ⟨d1.cr, d1.nx, d1.ah, 0, d1.pa, 0, d1.li, d1.si, d1.pu, d1.hl, (d1.S.drop m), d1.Q⟩ rfl rfl b4 u4; have b64 := (b62.keep u3 n63).keep u4 n63; have bg4 := (bg2.keep u3 ng3).keep u4 ng3; have G4 := grown_far (grown_far G2 u3 (fun q e => by have e := Option.some.inj e; omega)) u4 (fun q e => by have e := Option.some.inj e; omega); clear q0 q1 q2 q3 q4 q5 q6; obtain ⟨q0, q1, q2, q3, q4, q5, q6⟩ := bg4.cell7; have s3 : True := trivial))
                exact HK2.out _ _ (so_t24 w _ lo g3 g6 ⟨d1.cr, d1.nx, d1.ah, 0, d1.pa, 0, d1.li, d1.si, d1.pu, d1.hl, (d1.S.drop m), d1.Q⟩ Z2 rs2 qs false true false (by unfold saW; rw [decide_eq_false HSP.out]; rfl) h4 b64 h36 hw3 G4 hk4 HH.out (by show (0 : Int) + 1 ≤ d1.pa; omega))
            · go_wp2_with (first
                | (have _t := s1; clear s1; refine wpList_stC _ rfl _ _ _ rfl g3 5 50 _ #[.int .i64 d1.cr, .int .i64 d1.nx, .int .i64 d1.ah, .slice Z2.sa Z2.sn Z2.sc, .slice Z2.qa Z2.qn Z2.qc, .int .i64 0, .int .i64 d1.pa, .int .i64 d1.tr, .int .i64 d1.li, .int .i64 d1.si, .int .i64 d1.pu, .int .i64 d1.hl] (.int .i64 0) rfl rfl bx (stc_int _ _ _) (by show 5 < 12; decide) rfl ?_; intro w3 b3 u3; have s2 : True := trivial)
                | (have _t := s2; clear s2; refine wpList_stC _ rfl _ _ _ rfl g3 7 50 _ #[.int .i64 d1.cr, .int .i64 d1.nx, .int .i64 d1.ah, .slice Z2.sa Z2.sn Z2.sc, .slice Z2.qa Z2.qn Z2.qc, .int .i64 0, .int .i64 d1.pa, .int .i64 0, .int .i64 d1.li, .int .i64 d1.si, .int .i64 d1.pu, .int .i64 d1.hl] (.int .i64 0) rfl rfl b3 (stc_int _ _ _) (by show 7 < 12; decide) rfl ?_; intro w4 b4 u4; clear v0 v1 v2 v3 v4 v5 v6 v7 v8 v9 v10 v11; obtain ⟨v0, v1, v2, v3, v4, v5, v6, v7, v8, v9, v10, v11⟩ := b4.cell12; have h4 := (h2.setI ⟨d1.cr, d1.nx, d1.ah, 0, d1.pa, d1.tr, d1.li, d1.si, d1.pu, d1.hl, (d1.S.drop m), d1.Q⟩ rfl rfl b3 u3).setI ⟨d1.cr, d1.nx, d1.ah, 0, d1.pa, 0, d1.li, d1.si, d1.pu, d1.hl, (d1.S.drop m), d1.Q⟩ rfl rfl b4 u4; have b64 := (b62.keep u3 n63).keep u4 n63; have bg4 := (bg2.keep u3 ng3).keep u4 ng3; have G4 := grown_far (grown_far G2 u3 (fun q e => by have e := Option.some.inj e; omega)) u4 (fun q e => by have e := Option.some.inj e; omega); clear q0 q1 q2 q3 q4 q5 q6; obtain ⟨q0, q1, q2, q3, q4, q5, q6⟩ := bg4.cell7; have s3 : True := trivial))
              exact HK2.out _ _ (so_t24 w _ lo g3 g6 ⟨d1.cr, d1.nx, d1.ah, 0, d1.pa, 0, d1.li, d1.si, d1.pu, d1.hl, (d1.S.drop m), d1.Q⟩ Z2 rs2 qs true true false rfl h4 b64 h36 hw3 G4 hk4 HH.out (by show (0 : Int) + 1 ≤ d1.pa; omega))
        · have eB : seD d1 m true = ⟨d1.cr, d1.nx, d1.ah, 0, d1.pa, 0, d1.li, d1.si, d1.pu, 15, (d1.S.drop m), d1.Q⟩ := by unfold seD; rw [if_neg (by omega), if_pos (by omega), if_pos rfl]
          obtain ⟨eV, eR⟩ := tk_halt (d := d) (z := z) (b := true) (d2 := ⟨d1.cr, d1.nx, d1.ah, 0, d1.pa, 0, d1.li, d1.si, d1.pu, 15, (d1.S.drop m), d1.Q⟩) (by rw [HB.out, eB]) (by show (15 : Int) ≠ 0; decide)
          have HV : Hid _ := eV
          have HR : Hid _ := eR
          clear eV eR eB
          go_wp2_with (first
            | (have _t := s1; clear s1; refine wpList_stC _ rfl _ _ _ rfl g3 5 50 _ #[.int .i64 d1.cr, .int .i64 d1.nx, .int .i64 d1.ah, .slice Z2.sa Z2.sn Z2.sc, .slice Z2.qa Z2.qn Z2.qc, .int .i64 0, .int .i64 d1.pa, .int .i64 d1.tr, .int .i64 d1.li, .int .i64 d1.si, .int .i64 d1.pu, .int .i64 d1.hl] (.int .i64 0) rfl rfl bx (stc_int _ _ _) (by show 5 < 12; decide) rfl ?_; intro w3 b3 u3; have s2 : True := trivial)
            | (have _t := s2; clear s2; refine wpList_stC _ rfl _ _ _ rfl g3 7 50 _ #[.int .i64 d1.cr, .int .i64 d1.nx, .int .i64 d1.ah, .slice Z2.sa Z2.sn Z2.sc, .slice Z2.qa Z2.qn Z2.qc, .int .i64 0, .int .i64 d1.pa, .int .i64 0, .int .i64 d1.li, .int .i64 d1.si, .int .i64 d1.pu, .int .i64 d1.hl] (.int .i64 0) rfl rfl b3 (stc_int _ _ _) (by show 7 < 12; decide) rfl ?_; intro w4 b4 u4; clear v0 v1 v2 v3 v4 v5 v6 v7 v8 v9 v10 v11; obtain ⟨v0, v1, v2, v3, v4, v5, v6, v7, v8, v9, v10, v11⟩ := b4.cell12; have h4 := (h2.setI ⟨d1.cr, d1.nx, d1.ah, 0, d1.pa, d1.tr, d1.li, d1.si, d1.pu, d1.hl, (d1.S.drop m), d1.Q⟩ rfl rfl b3 u3).setI ⟨d1.cr, d1.nx, d1.ah, 0, d1.pa, 0, d1.li, d1.si, d1.pu, d1.hl, (d1.S.drop m), d1.Q⟩ rfl rfl b4 u4; have b64 := (b62.keep u3 n63).keep u4 n63; have bg4 := (bg2.keep u3 ng3).keep u4 ng3; have G4 := grown_far (grown_far G2 u3 (fun q e => by have e := Option.some.inj e; omega)) u4 (fun q e => by have e := Option.some.inj e; omega); clear q0 q1 q2 q3 q4 q5 q6; obtain ⟨q0, q1, q2, q3, q4, q5, q6⟩ := bg4.cell7; have s3 : True := trivial)
            | (have _t := s3; clear s3; refine wpList_stC _ rfl _ _ _ rfl g3 11 50 _ #[.int .i64 d1.cr, .int .i64 d1.nx, .int .i64 d1.ah, .slice Z2.sa Z2.sn Z2.sc, .slice Z2.qa Z2.qn Z2.qc, .int .i64 0, .int .i64 d1.pa, .int .i64 0, .int .i64 d1.li, .int .i64 d1.si, .int .i64 d1.pu, .int .i64 15] (.int .i64 15) rfl rfl b4 (stc_err _ _ _) (by show 11 < 12; decide) rfl ?_; intro w5 b5 u5; clear v0 v1 v2 v3 v4 v5 v6 v7 v8 v9 v10 v11; obtain ⟨v0, v1, v2, v3, v4, v5, v6, v7, v8, v9, v10, v11⟩ := b5.cell12; have b65 := b64.keep u5 n63; have s4 : True := trivial)
            | (have _t := s4; clear s4; refine wpList_stX _ rfl _ (.tmp 6) (.tmp 75) rfl g6 _ _ rfl rfl b65 i12 rfl (by simp [Value.oneCell']) ?_; intro w9 b9 u9))
          refine bodyPost_ret (results_cell3 rfl _ _ _ ⟨g6, 0, none⟩ _ (.slice none 0 0) (.int .i64 0) rfl (BxS.load (t := 50) b9 Try.underlying50 i12) rfl rfl) rfl ?_
          have h9 := (h4.setI ⟨d1.cr, d1.nx, d1.ah, 0, d1.pa, 0, d1.li, d1.si, d1.pu, 15, (d1.S.drop m), d1.Q⟩ rfl rfl b5 u5).far g6 _ b65 h36.2 (by omega) u9
          rw [HV.out, HR.out]
          exact ⟨Z2, none, 0, 0, rfl, h9.rd.1, RdW.nil _, grown_far (grown_far G4 u5 (fun q e => by have e := Option.some.inj e; omega)) u9 (fun q e => by have e := Option.some.inj e; omega)⟩
      · have hm0 : ¬ (0 : Int) < (m : Int) := by omega
        have h4 := h2
        have b64 := b62
        have bg4 := bg2
        have G4 := G2
        have b4 := bx
        have s3 : True := trivial
        cases sh
        · have eB : seD d1 m false = ⟨d1.cr, d1.nx, d1.ah, d1.ti, d1.pa, d1.tr, d1.li, d1.si, d1.pu, d1.hl, (d1.S.drop m), d1.Q⟩ := by unfold seD; rw [if_neg (by omega), if_neg (by omega)]; obtain rfl : m = 0 := (by omega); rw [List.drop_zero]; try rfl
          have hk4 : Hk2 ⟨d1.cr, d1.nx, d1.ah, d1.ti, d1.pa, d1.tr, d1.li, d1.si, d1.pu, d1.hl, (d1.S.drop m), d1.Q⟩ := by rw [← eB]; exact hk.seD m false
          obtain ⟨eV, eR⟩ := tk_saF (d := d) (z := z) (b := true) (d2 := ⟨d1.cr, d1.nx, d1.ah, d1.ti, d1.pa, d1.tr, d1.li, d1.si, d1.pu, d1.hl, (d1.S.drop m), d1.Q⟩) (by rw [HB.out, eB]) HH.out
          rw [HG12.out, HG11.out] at eV eR
          have hK2 := HKK.out
          rw [eV, eR] at hK2
          have HK2 : Hid _ := hK2
          clear eV eR hK2 eB
          cases ag
          · go_wp2
            exact HK2.out _ _ (so_t24 w _ lo g3 g6 ⟨d1.cr, d1.nx, d1.ah, d1.ti, d1.pa, d1.tr, d1.li, d1.si, d1.pu, d1.hl, (d1.S.drop m), d1.Q⟩ Z2 rs2 qs wt false false rfl h4 b64 h36 hw3 G4 hk4 HH.out htp)
          · cases wt
            · by_cases hsp : d1.si = d1.pu
              · have HSP : Hid (d1.si = d1.pu) := hsp
                have hsp' : (d1.si == d1.pu) = true := by rw [hsp]; simp
                clear hsp
                go_wp2
                exact HK2.out _ _ (so_t24 w _ lo g3 g6 ⟨d1.cr, d1.nx, d1.ah, d1.ti, d1.pa, d1.tr, d1.li, d1.si, d1.pu, d1.hl, (d1.S.drop m), d1.Q⟩ Z2 rs2 qs false true true (by unfold saW; rw [decide_eq_true HSP.out]; rfl) h4 b64 h36 hw3 G4 hk4 HH.out htp)
              · have HSP : Hid (¬ d1.si = d1.pu) := hsp
                have hsp' : (d1.si == d1.pu) = false := beq_false_of_ne hsp
                go_wp2
                exact HK2.out _ _ (so_t24 w _ lo g3 g6 ⟨d1.cr, d1.nx, d1.ah, d1.ti, d1.pa, d1.tr, d1.li, d1.si, d1.pu, d1.hl, (d1.S.drop m), d1.Q⟩ Z2 rs2 qs false true false (by unfold saW; rw [decide_eq_false HSP.out]; rfl) h4 b64 h36 hw3 G4 hk4 HH.out htp)
            · go_wp2
              exact HK2.out _ _ (so_t24 w _ lo g3 g6 ⟨d1.cr, d1.nx, d1.ah, d1.ti, d1.pa, d1.tr, d1.li, d1.si, d1.pu, d1.hl, (d1.S.drop m), d1.Q⟩ Z2 rs2 qs true true false rfl h4 b64 h36 hw3 G4 hk4 HH.out htp)
        · have eB : seD d1 m true = ⟨d1.cr, d1.nx, d1.ah, d1.ti, d1.pa, d1.tr, d1.li, d1.si, d1.pu, 15, (d1.S.drop m), d1.Q⟩ := by unfold seD; rw [if_neg (by omega), if_neg (by omega), if_pos rfl]; obtain rfl : m = 0 := (by omega); rw [List.drop_zero]
          obtain ⟨eV, eR⟩ := tk_halt (d := d) (z := z) (b := true) (d2 := ⟨d1.cr, d1.nx, d1.ah, d1.ti, d1.pa, d1.tr, d1.li, d1.si, d1.pu, 15, (d1.S.drop m), d1.Q⟩) (by rw [HB.out, eB]) (by show (15 : Int) ≠ 0; decide)
          have HV : Hid _ := eV
          have HR : Hid _ := eR
          clear eV eR eB
          go_wp2_with (first
            | (have _t := s3; clear s3; refine wpList_stC _ rfl _ _ _ rfl g3 11 50 _ #[.int .i64 d1.cr, .int .i64 d1.nx, .int .i64 d1.ah, .slice Z2.sa Z2.sn Z2.sc, .slice Z2.qa Z2.qn Z2.qc, .int .i64 d1.ti, .int .i64 d1.pa, .int .i64 d1.tr, .int .i64 d1.li, .int .i64 d1.si, .int .i64 d1.pu, .int .i64 15] (.int .i64 15) rfl rfl b4 (stc_err _ _ _) (by show 11 < 12; decide) rfl ?_; intro w5 b5 u5; clear v0 v1 v2 v3 v4 v5 v6 v7 v8 v9 v10 v11; obtain ⟨v0, v1, v2, v3, v4, v5, v6, v7, v8, v9, v10, v11⟩ := b5.cell12; have b65 := b64.keep u5 n63; have s4 : True := trivial)
            | (have _t := s4; clear s4; refine wpList_stX _ rfl _ (.tmp 6) (.tmp 75) rfl g6 _ _ rfl rfl b65 i12 rfl (by simp [Value.oneCell']) ?_; intro w9 b9 u9))
          refine bodyPost_ret (results_cell3 rfl _ _ _ ⟨g6, 0, none⟩ _ (.slice none 0 0) (.int .i64 0) rfl (BxS.load (t := 50) b9 Try.underlying50 i12) rfl rfl) rfl ?_
          have h9 := (h4.setI ⟨d1.cr, d1.nx, d1.ah, d1.ti, d1.pa, d1.tr, d1.li, d1.si, d1.pu, 15, (d1.S.drop m), d1.Q⟩ rfl rfl b5 u5).far g6 _ b65 h36.2 (by omega) u9
          rw [HV.out, HR.out]
          exact ⟨Z2, none, 0, 0, rfl, h9.rd.1, RdW.nil _, grown_far (grown_far G4 u5 (fun q e => by have e := Option.some.inj e; omega)) u9 (fun q e => by have e := Option.some.inj e; omega)⟩
  · have HH2 : Hid (tkH z b = false) := by show _ = _; cases hq : tkH z b with | false => rfl | true => exact absurd hq hH
    have hb : b = false ∨ (b = true ∧ ((E : Int) == 0) = false) := by
      cases b
      · exact .inl rfl
      · refine .inr ⟨rfl, ?_⟩
        have h1 : tkH z true = false := HH2.out
        unfold tkH at h1
        rw [HEE.out] at h1
        simp at h1
        simp; omega
    clear hH
    have HB : Hid (tkB d z b = d1) := by show _ = _; unfold tkB; rw [HH2.out, HA.out]; rfl
    have HG12 : Hid (tkG z b 12 = false) := by show _ = _; unfold tkG; rw [HH2.out]; rfl
    have HG11 : Hid (tkG z b 11 = false) := by show _ = _; unfold tkG; rw [HH2.out]; rfl
    obtain ⟨eV, eR⟩ := tk_saF HB.out HH.out
    rw [HG12.out, HG11.out] at eV eR
    have hK2 := HKK.out
    rw [eV, eR] at hK2
    have HK2 : Hid _ := hK2
    clear eV eR hK2
    rcases hb with rfl | ⟨rfl, hE⟩
    · go_wp2
      exact HK2.out _ _ (so_t24 w wz lo g3 g6 d1 Z rs qs false false false rfl h b6 h36 hw3 G hk HH.out htp)
    · go_wp2
      exact HK2.out _ _ (so_t24 w wz lo g3 g6 d1 Z rs qs false false false rfl h b6 h36 hw3 G hk HH.out htp)
end Go.Proofs.Ytnnoeeakkpaocaa
