import Derived.Test.YtnimehkfnpepfaaWh46
import Derived.Test.YtnimehkfnpepfaaWh43
import Derived.Test.YtnimehkfnpepfaaWh0
import Derived.Test.YtnimehkfnpepfaaWh47
import Derived.Test.YtnimehkfnpepfaaWh12
namespace Go.Proofs.Ytnimehkfnpepfaa
open Go.RowKit
set_option maxRecDepth 100000
set_option linter.unusedVariables false
set_option linter.unusedSimpArgs false

section
def pkQ (x : Int) (m : Nat) : Nat := ((if x < 0 then -(x + 1) else x) % (m : Int)).toNat
theorem pkQ_lt (x : Int) (m : Nat) (h : 0 < m) : pkQ x m < m := by
  unfold pkQ
  have := Int.emod_lt_of_pos (if x < 0 then -(x + 1) else x) (show (0 : Int) < (m : Int) by omega)
  have := Int.emod_nonneg (if x < 0 then -(x + 1) else x) (show (m : Int) ≠ 0 by omega)
  omega
theorem pickQ_any (n : Int) (m : Nat) (w : World) (h1 : -9223372036854775808 ≤ n ∧ n ≤ 9223372036854775807) (ho : 0 < m) (ho2 : m ≤ 9223372036854775807) :
    Calls Try.prog 45 #[.int .i64 n, .int .i64 m] w fun e w' => e = .returned (.int .i64 (pkQ n m : Nat)) ∧ w' = w := by
  obtain ⟨h1, h2⟩ := h1
  have hnz : ¬ (m : Int) = 0 := by omega
  by_cases hn : n < 0
  · go_enter Try.func45, Try.ntmps45
    go_wp2
    go_ret
    have p1 := Int.emod_nonneg (-(n + 1)) (show (m : Int) ≠ 0 by omega)
    have e : -((n + 1).tmod m) = (-(n + 1)) % m := by rw [← Int.neg_tmod, Int.tmod_eq_emod_of_nonneg (by omega)]
    refine ⟨?_, rfl⟩
    refine congrArg (fun z => Ending.returned (Value.int .i64 z)) (?_ : -((n + 1).tmod m) = _)
    rw [e]
    unfold pkQ
    rw [if_pos hn]
    omega
  · go_enter Try.func45, Try.ntmps45
    go_wp2
    go_ret
    have p1 := Int.emod_nonneg n (show (m : Int) ≠ 0 by omega)
    refine ⟨?_, rfl⟩
    refine congrArg (fun z => Ending.returned (Value.int .i64 z)) (?_ : n % m = _)
    unfold pkQ
    rw [if_neg (by omega)]
    omega
def pkC (P : Int) (i m : Nat) : Nat := pkQ (wrap64 (P * ((i : Int) + 1))) m
def coF (P Co Lo : Int) (N : Nat) (W : List Nt) : List Nt × List Nt := coL (pkC P) (btC Co) (btC Lo) N 0 W []
theorem co_step {pk : Nat → Nat → Nat} {cp lo : Nat → Bool} {k i : Nat} {W A : List Nt} {x : Nt} (h : W[pk i W.length]? = some x) : coL pk cp lo (k + 1) i W A = coL pk cp lo k (i + 1) (if cp i = true then W else W.eraseIdx (pk i W.length)) (if lo i = true then A else A ++ [x]) := by
  show (match W[pk i W.length]? with | none => (A, W) | some x => coL pk cp lo k (i + 1) (if cp i = true then W else W.eraseIdx (pk i W.length)) (if lo i = true then A else A ++ [x])) = _
  rw [h]
theorem co_end {pk : Nat → Nat → Nat} {cp lo : Nat → Bool} {k i : Nat} {A : List Nt} : coL pk cp lo k i [] A = (A, []) := by
  cases k with
  | zero => rfl
  | succ k => rfl
theorem wrap64_in (x : Int) : -9223372036854775808 ≤ wrap64 x ∧ wrap64 x ≤ 9223372036854775807 := by
  unfold wrap64; omega
theorem mem_nth {α β γ : Type} {f : α → γ} {g : β → γ} {l : List α} {m : List β} (h : l.map f = m.map g) {k : Nat} {a : α} {b : β} (ha : l[k]? = some a) (hb : m[k]? = some b) : f a = g b := by
  have h1 : (l.map f)[k]? = some (f a) := by rw [List.getElem?_map, ha]; rfl
  rw [h, List.getElem?_map, hb] at h1
  exact (Option.some.inj h1).symm
set_option maxHeartbeats 16000000 in
/-- some of the notes come -/
theorem comes_any (lo : Nat) (a : Option Addr) (n c : Nat) (rs : List Rw) (W : List Nt) (N : Nat) (Dn Up P Lo Co : Int) (w : World) (hW : WyM w lo a n c rs) (hD : rs.map Rw.D = W.map enT) (hq : ∀ n, n ∈ W → NtQ n) (hN : N ≤ 1000) (hn : n ≤ 100000) (hlo : lo ≤ w.heap.size) :
    Calls Try.prog 82 #[.slice a n c, .int .i64 (N : Nat), .agg #[.int .i64 Dn, .int .i64 Up, .int .i64 P, .int .i64 Lo, .int .i64 Co]] w fun e w' => ∃ na nc xs a' n' c' rs', e = .returned (.tuple #[.slice na xs.length nc, .slice a' n' c', .bool true]) ∧ OwN w' w.heap.size na xs.length nc xs ∧ xs.map Nx.dt = (coF P Co Lo N W).1 ∧ WyM w' lo a' n' c' rs' ∧ rs'.map Rw.D = (coF P Co Lo N W).2.map enT ∧ (∀ z, (Value.slice a' n' c').ownBlock = some z → (Value.slice a n c).ownBlock = some z ∨ w.heap.size ≤ z) ∧ w.grownBy w' none := by
  have HD : Hid _ := hD
  clear hD
  have b0 := BxS.new w 77 #[.int .i64 Dn, .int .i64 Up, .int .i64 P, .int .i64 Lo, .int .i64 Co]
  have G0 := World.grownBy_alloc w (.cells #[.int .i64 Dn, .int .i64 Up, .int .i64 P, .int .i64 Lo, .int .i64 Co] 77) none
  go_enter Try.func82, Try.ntmps82
  go_wp2
  go_loopw [0, 9, 10] (fun v0 v9 v10 wr => ∃ (i : Nat) (a1 : Option Addr) (n1 c1 : Nat) (rs1 : List Rw) (W1 : List Nt) (la : Option Addr) (lc : Nat) (xs : List Nx), i ≤ N ∧ v10 = .int .i64 i ∧ v0 = .slice a1 n1 c1 ∧ v9 = .slice la xs.length lc ∧ WyM wr lo a1 n1 c1 rs1 ∧ Hid (rs1.map Rw.D = W1.map enT) ∧ (∀ n, n ∈ W1 → NtQ n) ∧ OwN wr w.heap.size la xs.length lc xs ∧ Hid (coL (pkC P) (btC Co) (btC Lo) (N - i) i W1 (xs.map Nx.dt) = coF P Co Lo N W) ∧ w.grownBy wr none ∧ BxS wr w.heap.size 77 #[.int .i64 Dn, .int .i64 Up, .int .i64 P, .int .i64 Lo, .int .i64 Co] ∧ Hid (∀ z, (Value.slice a1 n1 c1).ownBlock = some z → (Value.slice a n c).ownBlock = some z ∨ w.heap.size ≤ z) ∧ xs.length ≤ i ∧ n1 ≤ n) (fun v0 v9 v10 _ => N - (intOf v10).toNat)
  case atStart => exact ⟨0, a, n, c, rs, W, none, 0, [], Nat.zero_le _, rfl, rfl, rfl, hW.keep G0, HD, hq, OwN.nil _ _, (rfl : _ = _), G0, b0, fun z e => .inl e, Nat.le_refl _, Nat.le_refl _⟩
  case round =>
    obtain ⟨i, a1, n1, c1, rs1, W1, la, lc, xs, hi, rfl, rfl, rfl, hW1, HD1, hq1, hN1, HCO, Gr, hb1, HZ1, hxl, hn1⟩ := hrel
    have hl1 := hW1.len
    have hwl : W1.length = n1 := by
      have h9 := congrArg List.length HD1.out
      rw [List.length_map, List.length_map] at h9
      omega
    by_cases hlt : i < N
    · have lj : (i : Int) < (N : Int) := by omega
      by_cases h0 : 0 < n1
      · have l0 : (0 : Int) < (n1 : Int) := by omega
        have HWL : Hid _ := hwl
        have HL1 : Hid _ := hl1
        obtain ⟨g1, hg1, hgl1⟩ := hW1.some h0
        subst hg1
        have HPk := fun wz => pickQ_any (wrap64 (P * ((i : Int) + 1))) n1 wz (wrap64_in _) h0 (by omega)
        have hk := pkQ_lt (wrap64 (P * ((i : Int) + 1))) n1 h0
        obtain ⟨k, hkk⟩ : ∃ k, pkQ (wrap64 (P * ((i : Int) + 1))) n1 = k := ⟨_, rfl⟩
        rw [hkk] at HPk hk
        have HKK : Hid _ := hkk
        obtain ⟨x0, hx0⟩ : ∃ x0, W1[k]? = some x0 := ⟨W1[k]'(by omega), List.getElem?_eq_getElem _⟩
        obtain ⟨r0, hr0⟩ : ∃ r0, rs1[k]? = some r0 := ⟨rs1[k]'(by omega), List.getElem?_eq_getElem _⟩
        have hrD : r0.D = enT x0 := mem_nth HD1.out hr0 hx0
        have hrm := List.mem_of_getElem? hr0
        have ck : wr.cell? ⟨g1, k, none⟩ = some (.slice r0.a r0.n r0.c) := hW1.cells rfl k _ (by unfold flatR; rw [List.getElem?_map, hr0]; rfl)
        have HDc := decQ_any x0 (hq1 x0 (List.mem_of_getElem? hx0)) r0.a r0.n r0.c wr (by rw [← hrD]; exact (hW1.each r0 hrm).rd)
        have lk : (k : Int) < (n1 : Int) := by omega
        have c2 : wr.cell? ⟨w.heap.size, 2, none⟩ = some (.int .i64 P) := hb1.cell 2 (by show 2 < 5; decide)
        have HX0 : Hid _ := hx0
        clear hkk hrD hr0 hx0 hwl hl1 hrm
        refine wp_seq_k fun K1 hK1 => ?_
        have HK1 : Hid _ := hK1
        clear hK1
        go_wp2
        refine HK1.out _ _ ?_
        clear HK1
        refine wp_seq_k fun K2 hK2 => ?_
        have HK2 : Hid _ := hK2
        clear hK2
        refine wp_block ?_
        refine wp_seq_k fun K3 hK3 => ?_
        have HK3 : Hid _ := hK3
        clear hK3
        go_wp2_with (go_at_call 45; refine (HPk _).mono ?_; rintro e wx ⟨rfl, hwx⟩; have hwx := hwx.symm; subst hwx)
        refine HK3.out _ _ ?_
        clear HK3
        refine wp_seq_k fun K4 hK4 => ?_
        have HK4 : Hid _ := hK4
        clear hK4
        have s1 : True := trivial
        go_wp2_with (first
          | (go_at_call 18; refine HDc.mono ?_; rintro e w3 ⟨x, hx, rfl, hAx, hOx, g3⟩; have HX : Hid _ := hx; clear hx; have b4 := BxS.new w3 27 ntZ; have G4 := World.grownBy_alloc w3 (.cells ntZ 27) none; have s2 : True := trivial)
          | (have _t := s2; clear s2; refine wpList_stX _ rfl _ (.tmp 12) (.tmp 38) rfl w3.heap.size _ x.arr rfl rfl b4 Try.info_nt rfl (by simp [Nx.arr, Value.oneCell']) ?_; intro w5 bx5 u5))
        refine HK4.out _ _ ?_
        clear HK4
        have G35 : wr.grownBy w5 none := grown_far (grown_trans g3 G4) u5 (fun z e => by cases e; exact g3.size)
        have G05 := grown_trans Gr G35
        have hW5 := hW1.keep G35
        have b55 := hb1.keep G35 (by simp)
        have hN5 := hN1.keep G35
        have hsz := Gr.size
        have hA5 : Ans w5 w.heap.size x.a x.da.length x.c x.da := ((hAx.wide hsz).keep G4).kRR u5 (fun z e => by cases e; exact own_ty ((hAx.wide hsz).keep G4).own b4 (by decide))
        have hO5 : OwGi w5 w.heap.size x.q x.ga.length x.d x.ga := ((hOx.wide hsz).keep G4).bx b4 (by decide) u5
        have hsp : ∀ z, ((Value.slice x.a x.da.length x.c).ownBlock = some z ∨ (Value.slice x.q x.ga.length x.d).ownBlock = some z) → ¬ Nbl la xs.length lc xs z := fun z e hz => by
          have h1 := hN1.lt hz
          rcases e with e | e
          · have := hAx.new z e; omega
          · have := hOx.new z e; omega
        have hlo5 : lo ≤ w5.heap.size := Nat.le_trans hlo G05.size
        have c4 : w5.cell? ⟨w.heap.size, 4, none⟩ = some (.int .i64 Co) := b55.cell 4 (by show 4 < 5; decide)
        obtain ⟨g12, hg12⟩ : ∃ g, w3.heap.size = g := ⟨_, rfl⟩
        rw [hg12] at bx5 ⊢
        clear hg12 u5 G4 b4 hAx hOx g3 HDc
        refine wp_seq_k fun K5 hK5 => ?_
        have HK5 : Hid _ := hK5
        clear hK5
        go_wp2
        refine HK5.out _ _ ?_
        clear HK5
        refine wp_seq_k fun K6 hK6 => ?_
        have HK6 : Hid _ := hK6
        clear hK6
        cases hc : (bits BinOp.and .i64 (Co / 2 ^ (i % 60)) 1 == 0) with
        | false =>
          go_wp2
          refine HK6.out _ _ ?_
          clear HK6
          have hwl := HWL.out
          have hx0 := HX0.out
          refine cm_t11 _ w w5 w.heap.size g12 la lc xs x Dn Up P Lo Co i lo (n1) c1 (some ⟨g1, 0, none⟩) (rs1) (by omega) (by omega) (grown_trans G05 (World.grownBy.refl w5 none)) hW5 (Nat.le_trans hlo5 ((World.grownBy.refl w5 none)).size) (b55.keep (World.grownBy.refl w5 none) (by simp)) (bx5.keep (World.grownBy.refl w5 none) (by simp)) (hN5.keep (World.grownBy.refl w5 none)) (hA5.keep (World.grownBy.refl w5 none)) (hO5.keep (World.grownBy.refl w5 none)) hsp ?_
          intro v58 v59 v60 v61 v62 v63 v64 v65 v66 v67 v68 la' lc' xs' w' q1 q2 q3 q4 q5 q6
          refine HK2.out _ _ ?_
          clear HK2
          go_wp2
          go_roundw
          case rel =>
            refine ⟨i + 1, some ⟨g1, 0, none⟩, n1, c1, rs1, W1, la', lc', xs', by omega, by go_num, rfl, rfl, q4, ?_, ?_, q1, ?_, q3, q6, ?_, ?_, ?_⟩
            · exact HD1.out
            · exact hq1
            · rw [← HCO.out, show N - i = N - (i + 1) + 1 by omega, co_step (x := x0) (by rw [hwl]; unfold pkC; rw [HKK.out]; exact hx0)]
              have e1 : btC Co i = true := by unfold btC; rw [hc]; rfl
              rw [e1, hwl]
              have e2 : pkC P i n1 = k := by unfold pkC; exact HKK.out
              rw [e2, q2, HX.out.symm]
              split
              · rfl
              · rw [List.map_append]; rfl
            · exact HZ1.out
            · rw [q2]; split
              · omega
              · rw [List.length_append]; show xs.length + 1 ≤ _; omega
            · exact hn1
          case measure => simp [intOf] <;> omega
        | true =>
          refine wp_seq_k fun K8 hK8 => ?_
          have HK8 : Hid _ := hK8
          clear hK8
          go_wp2
          refine HK8.out _ _ ?_
          clear HK8
          refine wp_cond_true rfl ?_
          refine cm_t10 _ (fun _ _ _ _ e h => ⟨e.symm.trans h.1, h.2⟩) w5 g1 n1 c1 k lo rs1 hW5 hlo5 hk (by omega) ?_
          intro v49 v50 v51 v52 v53 v54 v55 v56 v57 a7 c7 w7 hW7 G57 z7
          refine HK6.out _ _ ?_
          clear HK6
          have hwl := HWL.out
          have hl1 := HL1.out
          have hx0 := HX0.out
          have hmap : (rs1.take k ++ rs1.drop (k + 1)).map Rw.D = (W1.eraseIdx k).map enT := by
            rw [List.eraseIdx_eq_take_drop_succ, List.map_append, List.map_append, List.map_take, List.map_drop, HD1.out, List.map_take, List.map_drop]
          refine cm_t11 _ w w7 w.heap.size g12 la lc xs x Dn Up P Lo Co i lo (n1 - 1) c7 (a7) (rs1.take k ++ rs1.drop (k + 1)) (by omega) (by omega) (grown_trans G05 G57) hW7 (Nat.le_trans hlo5 (G57).size) (b55.keep G57 (by simp)) (bx5.keep G57 (by simp)) (hN5.keep G57) (hA5.keep G57) (hO5.keep G57) hsp ?_
          intro v58 v59 v60 v61 v62 v63 v64 v65 v66 v67 v68 la' lc' xs' w' q1 q2 q3 q4 q5 q6
          refine HK2.out _ _ ?_
          clear HK2
          go_wp2
          go_roundw
          case rel =>
            refine ⟨i + 1, a7, n1 - 1, c7, rs1.take k ++ rs1.drop (k + 1), W1.eraseIdx k, la', lc', xs', by omega, by go_num, rfl, rfl, q4, ?_, ?_, q1, ?_, q3, q6, ?_, ?_, ?_⟩
            · exact hmap
            · exact fun n hn => hq1 n (List.mem_of_mem_eraseIdx hn)
            · rw [← HCO.out, show N - i = N - (i + 1) + 1 by omega, co_step (x := x0) (by rw [hwl]; unfold pkC; rw [HKK.out]; exact hx0)]
              have e1 : btC Co i = false := by unfold btC; rw [hc]; rfl
              rw [e1, hwl]
              have e2 : pkC P i n1 = k := by unfold pkC; exact HKK.out
              rw [e2, q2, HX.out.symm]
              split
              · rfl
              · rw [List.map_append]; rfl
            · exact fun z e => .inr (Nat.le_trans G05.size (z7 z e))
            · rw [q2]; split
              · omega
              · rw [List.length_append]; show xs.length + 1 ≤ _; omega
            · omega
          case measure => simp [intOf] <;> omega
      · obtain rfl : n1 = 0 := by omega
        have hw0 : W1 = [] := List.length_eq_zero_iff.1 hwl
        go_wp2
        go_ret3
        have h9 := HCO.out
        rw [hw0, co_end] at h9
        rw [← h9]
        have hr0 : rs1 = [] := List.length_eq_zero_iff.1 hl1
        first | exact ⟨la, lc, xs, a1, 0, c1, rfl, hN1, rfl, rs1, hW1, by rw [hr0]; rfl, HZ1.out, Gr⟩ | exact ⟨la, lc, xs, a1, 0, c1, rs1, rfl, hN1, rfl, hW1, by rw [hr0]; rfl, HZ1.out, Gr⟩
    · obtain rfl : i = N := by omega
      have lj : ¬ (i : Int) < (i : Int) := by omega
      go_wp2
      go_ret3
      have h9 := HCO.out
      rw [Nat.sub_self] at h9
      have h9 : (xs.map Nx.dt, W1) = _ := h9
      rw [← h9]
      first | exact ⟨la, lc, xs, a1, n1, c1, rfl, hN1, rfl, rs1, hW1, HD1.out, HZ1.out, Gr⟩ | exact ⟨la, lc, xs, a1, n1, c1, rs1, rfl, hN1, rfl, hW1, HD1.out, HZ1.out, Gr⟩
end

section
set_option maxHeartbeats 16000000 in
theorem dw_r17 {u0 u1 u2 u3 u4 u5 u6 u7 u8 u9 u10 u11 u12 u13 u14 u15 u16 u17 u19 u20 u21 u22 u23 u24 u25 u26 u27 u28 u29 u30 u31 u32 u33 u34 u35 u36 u37 u38 u39 u40 u41 u42 u43 u44 u45 u46 u47 u48 u49 u50 u51 u52 u53 u54 u55 u56 u57 u58 u59 u60 u61 u62 u63 u64 u65 u66 u67 u68 u69 u70 u71 u72 u73 u74 u75 u76 u77 u78 u79 u80 u81 u82 u83 u84 u85 u86 u87 u88 u89 u90 u91 u92 u93 u94 u95 u96 u97 u98 u99 u100 u101 u102 u103 u104 u105 u106 u107 u108 u109 u110 u111 u112 u113 u114 u115 u116 u117 u118 u119 u120 u121 u122 u123 u124 u125 u126 u127 u128 u129 u130 u131 u132 u133 u134 u135 u136 u137 u138 u139 u140 u141 u142 u143 u144 u145 u146 u147 u148 u149 u150 u151 u152 u153 u154 u155 u156 u157 u158 u159 u160 u161 u162 u163 u164 u165 u166 u167 : Value} (Q : Exit → Act → World → Prop) (hP : ∀ c (a1 a2 : Act) w, a1.defers = a2.defers → Q (.panic c) a1 w → Q (.panic c) a2 w) (wb : World) (g18 Nd Nu : Nat) (fd fu fp fl fo : Int) (bb : BxS wb g18 77 #[.int .i64 fd, .int .i64 fu, .int .i64 fp, .int .i64 fl, .int .i64 fo])
    (H12d : ∀ wz, Calls Try.prog 45 #[.int .i64 fd, .int .i64 12] wz fun e w' => e = .returned (.int .i64 (Nd : Int)) ∧ w' = wz) (H12u : ∀ wz, Calls Try.prog 45 #[.int .i64 fu, .int .i64 12] wz fun e w' => e = .returned (.int .i64 (Nu : Int)) ∧ w' = wz)
    (hQ : ∀ v81 v82 v83 v84 v85 v86 v87 v88 wf, BxS wf g18 77 #[.int .i64 (Nd : Int), .int .i64 (Nu : Int), .int .i64 fp, .int .i64 fl, .int .i64 fo] → wb.grownBy wf (some g18) → Q .normal (Act.mk (List.toArray (u0 :: u1 :: u2 :: u3 :: u4 :: u5 :: u6 :: u7 :: u8 :: u9 :: u10 :: u11 :: u12 :: u13 :: u14 :: u15 :: u16 :: u17 :: (.pointer (some ⟨g18, 0, none⟩)) :: u19 :: u20 :: u21 :: u22 :: u23 :: u24 :: u25 :: u26 :: u27 :: u28 :: u29 :: u30 :: u31 :: u32 :: u33 :: u34 :: u35 :: u36 :: u37 :: u38 :: u39 :: u40 :: u41 :: u42 :: u43 :: u44 :: u45 :: u46 :: u47 :: u48 :: u49 :: u50 :: u51 :: u52 :: u53 :: u54 :: u55 :: u56 :: u57 :: u58 :: u59 :: u60 :: u61 :: u62 :: u63 :: u64 :: u65 :: u66 :: u67 :: u68 :: u69 :: u70 :: u71 :: u72 :: u73 :: u74 :: u75 :: u76 :: u77 :: u78 :: u79 :: u80 :: v81 :: v82 :: v83 :: v84 :: v85 :: v86 :: v87 :: v88 :: u89 :: u90 :: u91 :: u92 :: u93 :: u94 :: u95 :: u96 :: u97 :: u98 :: u99 :: u100 :: u101 :: u102 :: u103 :: u104 :: u105 :: u106 :: u107 :: u108 :: u109 :: u110 :: u111 :: u112 :: u113 :: u114 :: u115 :: u116 :: u117 :: u118 :: u119 :: u120 :: u121 :: u122 :: u123 :: u124 :: u125 :: u126 :: u127 :: u128 :: u129 :: u130 :: u131 :: u132 :: u133 :: u134 :: u135 :: u136 :: u137 :: u138 :: u139 :: u140 :: u141 :: u142 :: u143 :: u144 :: u145 :: u146 :: u147 :: u148 :: u149 :: u150 :: u151 :: u152 :: u153 :: u154 :: u155 :: u156 :: u157 :: u158 :: u159 :: u160 :: u161 :: u162 :: u163 :: u164 :: u165 :: u166 :: u167 :: [])) []) wf) :
    Code.wp Try.prog (tailR 17 (Try.f10.body.getD .skip)) Q (Act.mk (List.toArray (u0 :: u1 :: u2 :: u3 :: u4 :: u5 :: u6 :: u7 :: u8 :: u9 :: u10 :: u11 :: u12 :: u13 :: u14 :: u15 :: u16 :: u17 :: (.pointer (some ⟨g18, 0, none⟩)) :: u19 :: u20 :: u21 :: u22 :: u23 :: u24 :: u25 :: u26 :: u27 :: u28 :: u29 :: u30 :: u31 :: u32 :: u33 :: u34 :: u35 :: u36 :: u37 :: u38 :: u39 :: u40 :: u41 :: u42 :: u43 :: u44 :: u45 :: u46 :: u47 :: u48 :: u49 :: u50 :: u51 :: u52 :: u53 :: u54 :: u55 :: u56 :: u57 :: u58 :: u59 :: u60 :: u61 :: u62 :: u63 :: u64 :: u65 :: u66 :: u67 :: u68 :: u69 :: u70 :: u71 :: u72 :: u73 :: u74 :: u75 :: u76 :: u77 :: u78 :: u79 :: u80 :: u81 :: u82 :: u83 :: u84 :: u85 :: u86 :: u87 :: u88 :: u89 :: u90 :: u91 :: u92 :: u93 :: u94 :: u95 :: u96 :: u97 :: u98 :: u99 :: u100 :: u101 :: u102 :: u103 :: u104 :: u105 :: u106 :: u107 :: u108 :: u109 :: u110 :: u111 :: u112 :: u113 :: u114 :: u115 :: u116 :: u117 :: u118 :: u119 :: u120 :: u121 :: u122 :: u123 :: u124 :: u125 :: u126 :: u127 :: u128 :: u129 :: u130 :: u131 :: u132 :: u133 :: u134 :: u135 :: u136 :: u137 :: u138 :: u139 :: u140 :: u141 :: u142 :: u143 :: u144 :: u145 :: u146 :: u147 :: u148 :: u149 :: u150 :: u151 :: u152 :: u153 :: u154 :: u155 :: u156 :: u157 :: u158 :: u159 :: u160 :: u161 :: u162 :: u163 :: u164 :: u165 :: u166 :: u167 :: [])) []) wb := by
  conv => enter [2]; whnf
  have HQ : Hid _ := hQ
  clear hQ
  have Gd := grown_drew wb none
  have SS : BxS wb.drew g18 77 #[.int .i64 fd, .int .i64 fu, .int .i64 fp, .int .i64 fl, .int .i64 fo] := bb.keep Gd (by simp)
  refine wp_regionM (fun wz => BxS wz g18 77 #[.int .i64 fd, .int .i64 fu, .int .i64 fp, .int .i64 fl, .int .i64 fo]) [7, 9] #[false, false, false, false, false, false, false, false, false, false] rfl (by kernel_rfl) ?_
  generalize wb.drew = wd at *
  refine wpAnyY_take [7, 9] 0 (.pointer (some ⟨g18, 0, none⟩)) rfl (by kernel_rfl) (fun _ _ _ h => hP _ _ _ _ (by rfl) h) SS rfl (by intro wz hz; go_simp) ?_
  try simp only [zc1, zc2, zc3, Act.put, zc4, zc5, zc6]
  refine wpAnyY_take [7, 9] 1 (.int .i64 fd) rfl (by kernel_rfl) (fun _ _ _ h => hP _ _ _ _ (by rfl) h) SS rfl (by intro wz hz; have z : wz.cell? ⟨g18, 0, none⟩ = some (.int .i64 fd) := hz.cell 0 (by show 0 < 5; decide); go_simp) ?_
  try simp only [zc1, zc2, zc3, Act.put, zc4, zc5, zc6]
  refine wpAnyY_take [7, 9] 3 (.pointer (some ⟨g18, 1, none⟩)) rfl (by kernel_rfl) (fun _ _ _ h => hP _ _ _ _ (by rfl) h) SS rfl (by intro wz hz; go_simp) ?_
  try simp only [zc1, zc2, zc3, Act.put, zc4, zc5, zc6]
  refine wpAnyY_take [7, 9] 4 (.int .i64 fu) rfl (by kernel_rfl) (fun _ _ _ h => hP _ _ _ _ (by rfl) h) SS rfl (by intro wz hz; have z : wz.cell? ⟨g18, 1, none⟩ = some (.int .i64 fu) := hz.cell 1 (by show 1 < 5; decide); go_simp) ?_
  try simp only [zc1, zc2, zc3, Act.put, zc4, zc5, zc6]
  refine wpAnyY_oneB 2 rfl (by kernel_rfl) (fun KK hKK => ?_)
  go_simp
  go_at_call 45
  refine (H12d wd).mono ?_
  rintro e wx ⟨rfl, hwx⟩
  dsimp only
  rw [hwx]
  clear hwx
  refine hKK _ _ (fun h _ => h) ?_
  try simp only [zc1, zc2, zc3, Act.put, zc4, zc5, zc6]
  refine wpAnyY_take [7, 9] 6 (.pointer (some ⟨g18, 0, none⟩)) rfl (by kernel_rfl) (fun _ _ _ h => hP _ _ _ _ (by rfl) h) SS rfl (by intro wz hz; go_simp) ?_
  try simp only [zc1, zc2, zc3, Act.put, zc4, zc5, zc6]
  refine wpAnyY_oneB 5 rfl (by kernel_rfl) (fun KK hKK => ?_)
  go_simp
  go_at_call 45
  refine (H12u wd).mono ?_
  rintro e wx ⟨rfl, hwx⟩
  dsimp only
  rw [hwx]
  clear hwx
  refine hKK _ _ (fun h _ => h) ?_
  try simp only [zc1, zc2, zc3, Act.put, zc4, zc5, zc6]
  refine wpAnyY_oneB 7 rfl (by kernel_rfl) (fun KK hKK => ?_)
  refine step_of_listQ rfl ?_
  refine wpList_stC _ rfl _ _ _ rfl g18 0 77 _ #[.int .i64 (Nd : Int), .int .i64 fu, .int .i64 fp, .int .i64 fl, .int .i64 fo] (.int .i64 (Nd : Int)) rfl rfl SS (stc_int _ _ _) (by show 0 < 5; decide) rfl ?_
  intro we be ue
  show KK _ we
  refine hKK _ _ (fun _ h => absurd (by decide) h) ?_
  try simp only [zc1, zc2, zc3, Act.put, zc4, zc5, zc6]
  refine wpAnyY_oneB 8 rfl (by kernel_rfl) (fun KK hKK => ?_)
  go_simp
  refine hKK _ _ (fun h _ => h) ?_
  try simp only [zc1, zc2, zc3, Act.put, zc4, zc5, zc6]
  refine wpAnyY_oneB 9 rfl (by kernel_rfl) (fun KK hKK => ?_)
  refine step_of_listQ rfl ?_
  refine wpList_stC _ rfl _ _ _ rfl g18 1 77 _ #[.int .i64 (Nd : Int), .int .i64 (Nu : Int), .int .i64 fp, .int .i64 fl, .int .i64 fo] (.int .i64 (Nu : Int)) rfl rfl be (stc_int _ _ _) (by show 1 < 5; decide) rfl ?_
  intro wf bf uf
  show KK _ wf
  refine hKK _ _ (fun _ h => absurd (by decide) h) ?_
  try simp only [zc1, zc2, zc3, Act.put, zc4, zc5, zc6]
  refine wpAnyY_doneB (by kernel_rfl) ?_ _
  exact HQ.out _ _ _ _ _ _ _ _ wf bf (grown_trans (grown_trans (grown_weak Gd _) ue) uf)
end
end Go.Proofs.Ytnimehkfnpepfaa
