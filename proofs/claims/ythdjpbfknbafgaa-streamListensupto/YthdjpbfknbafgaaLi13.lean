import Derived.Test.YthdjpbfknbafgaaLi10
import Derived.Test.YthdjpbfknbafgaaLi7
import Derived.Test.YthdjpbfknbafgaaLi12
import Derived.Test.YthdjpbfknbafgaaLi11
namespace Go.Proofs.Ythdjpbfknbafgaa
open Go.RowKit
set_option maxRecDepth 100000
set_option linter.unusedVariables false
set_option linter.unusedSimpArgs false

section
open Go.RowKit Go.Shelf
attribute [local go_sem] Oper.semAt_some

theorem cellGS {w w' : World} {k o : Nat} {v : Value} (h : w.cell? ⟨k, o, none⟩ = some v) (hg : w.grownBy w' none) : w'.cell? ⟨k, o, none⟩ = some v :=
  cell_frm h (Frm.of (p := fun _ => False) hg (fun k e _ => by cases e)) (fun h => h)
/-- the bits of a frame, turned back -/
def fbN (B : List Nat) (q : Nat) (t : Bool) (n : Nat) : List Nat := tab n (fun j => flp t (nth B (q + 32 + j) % 2))
theorem jN_vB (B : List Nat) (q : Nat) (t : Bool) (L k : Nat) (hk : k < L) : ∀ j, j ≤ 8 → jN (fbN B q t (8 * L)) k j = if t then 2 ^ j - 1 - vB B (q + 32 + 8 * k) j else vB B (q + 32 + 8 * k) j := by
  intro j
  induction j with
  | zero => intro _; cases t <;> rfl
  | succ j ih =>
    intro hj
    have hi := ih (by omega)
    show 2 * jN _ k j + nth (fbN B q t (8 * L)) (8 * k + j) = _
    have hn : nth (fbN B q t (8 * L)) (8 * k + j) = flp t (nth B (q + 32 + 8 * k + j) % 2) := by
      unfold fbN
      rw [tab_nth _ _ _ (by omega), Nat.add_assoc (q + 32)]
    rw [hi, hn]
    have hv := vB_lt B (q + 32 + 8 * k) j
    have hp : 2 ^ (j + 1) = 2 * 2 ^ j := by rw [Nat.pow_succ, Nat.mul_comm]
    have hb : nth B (q + 32 + 8 * k + j) % 2 < 2 := Nat.mod_lt _ (by decide)
    have hs : vB B (q + 32 + 8 * k) (j + 1) = 2 * vB B (q + 32 + 8 * k) j + nth B (q + 32 + 8 * k + j) % 2 := rfl
    rw [hs]
    unfold flp
    cases t with
    | false => rfl
    | true =>
      show 2 * (2 ^ j - 1 - vB B (q + 32 + 8 * k) j) + (1 - nth B (q + 32 + 8 * k + j) % 2) = 2 ^ (j + 1) - 1 - (2 * vB B (q + 32 + 8 * k) j + nth B (q + 32 + 8 * k + j) % 2)
      omega
theorem fb_bytes (B : List Nat) (q : Nat) (t : Bool) (L : Nat) : bytR (fbN B q t (8 * L)) = tuD t (dtB B q L) := by
  have hl : (fbN B q t (8 * L)).length = 8 * L := tab_len _ _
  have hb : BitTo (fbN B q t (8 * L)) (fbN B q t (8 * L)).length := fun i hi => by
    rw [hl] at hi
    unfold fbN
    rw [tab_nth _ _ _ hi]
    unfold flp
    have := Nat.mod_lt (nth B (q + 32 + i)) (show 0 < 2 by decide)
    split <;> omega
  have he : bytE (fbN B q t (8 * L)) = 0 := by
    unfold bytE
    rw [if_neg (by rw [hl]; omega), if_pos hb]
  unfold bytR
  rw [if_pos he]
  unfold bytL
  rw [hl, show 8 * L / 8 = L from by omega]
  have hd : (dtB B q L).length = L := tab_len _ _
  cases t with
  | false =>
    show tab L _ = tab L _
    exact tab_ext _ _ _ (fun k hk => jN_vB B q false L k hk 8 (Nat.le_refl _))
  | true =>
    show tab L _ = tab (dtB B q L).length (fun i => 255 - nth (dtB B q L) i)
    rw [hd]
    refine tab_ext _ _ _ (fun k hk => ?_)
    rw [jN_vB B q true L k hk 8 (Nat.le_refl _)]
    unfold dtB
    rw [tab_nth _ _ _ hk]
    rfl
theorem fb_add (B : List Nat) (q : Nat) (t : Bool) (n : Nat) : fbN B q t (n + 1) = fbN B q t n ++ [flp t (nth B (q + 32 + n) % 2)] := tab_succ _ _
theorem rw_in {B : List Nat} {q : Nat} {t : Bool} (h : q + 32 ≤ B.length) : rwV B (q : Int) t = wrB B q t := by
  unfold rwV
  rw [if_neg (by omega), wr_cnt]
  rfl
theorem rw_out {B : List Nat} {q : Nat} {t : Bool} (h : B.length < q + 32) : rwV B (q : Int) t = 99 := by
  unfold rwV
  rw [if_pos (by omega)]

set_option maxHeartbeats 16000000 in
theorem se_29 {u0 u3 u4 u5 u11 u12 u13 u14 u15 u16 u17 u18 u19 u20 u21 u22 u23 u24 u25 u26 u27 u28 u29 u30 u31 u32 u33 u34 u35 u36 u37 u38 u39 u40 u41 u42 u43 u44 u45 u46 u47 u48 u49 u50 u51 u52 u53 u54 u55 u56 u57 u58 u59 u60 u61 u62 u63 u64 u65 u66 u67 u68 u69 u70 u71 u72 u73 u74 u75 u76 u77 u78 u79 u80 u81 u82 u83 u84 u85 u86 u87 u88 u89 u90 u91 u92 u93 u94 u95 u96 u97 u98 u99 u100 u101 u102 u103 u104 u105 u106 u107 u108 u109 u110 u111 u112 u113 u114 u115 u116 u117 u118 u119 u120 u121 u122 u123 u124 u125 u126 u127 u128 u129 u130 u131 u132 u133 u134 : Value} {Q : Exit → Act → World → Prop} (w0 W : World) (g n c no co q m : Nat) (a ao : Option Addr) (t : Bool) (B : List Nat) (r : Rx) (ys : List Fy) (hR : Rd w0 a n c B) (hn : n ≤ 1048576) (hq : q ≤ n) (hL1 : 1 ≤ r.L) (hL : r.L ≤ 2048) (b : BxS W g 23 #[.int .i64 (r.L : Nat), .int .i64 (r.F : Nat), .int .i64 (r.H : Nat), .int .i64 (r.M : Nat)])
    (ho : W.ownsRow w0.heap.size 42 4 (.slice ao no co) no (flY ys)) (hyl : ys.length = no) (hyd : ∀ y, y ∈ ys → Ans W w0.heap.size y.1.a y.1.n y.2 y.1.D) (hnl : no ≤ 1048576) (Fr : Frm (fun _ => False) w0 W) (hgl : w0.heap.size ≤ g)
    (hQr : n < q + 32 + 8 * r.L → ∀ {z12 z13 z14 z15 z16 z17 z90 z91 z92 z93 z94 z95 z96 z97 z98 z99 z100 z101 z102 z103 z104 z105 z106 z107 z108 z109 z110 z111 z112 z113 z114 z115 z116 z117 z118 z119 z120 z121 z122 z123 z124 z125 z126 z127 z128 z129 z130 z131 z132 z133 z134 : Value}, Q .ret (Act.mk (List.toArray (u0 :: (.slice a n c) :: (.pointer (some ⟨g, 0, none⟩)) :: u3 :: (.slice ao no co) :: (.bool true) :: (.slice ao no co) :: (.int .i64 (q : Nat)) :: (.bool true) :: (.bool t) :: (.int .i64 (m : Nat)) :: u11 :: z12 :: z13 :: z14 :: z15 :: z16 :: z17 :: u18 :: u19 :: u20 :: u21 :: u22 :: u23 :: u24 :: u25 :: u26 :: u27 :: u28 :: u29 :: u30 :: u31 :: u32 :: u33 :: u34 :: u35 :: u36 :: u37 :: u38 :: u39 :: u40 :: u41 :: u42 :: u43 :: u44 :: u45 :: u46 :: u47 :: u48 :: u49 :: u50 :: u51 :: u52 :: u53 :: u54 :: u55 :: u56 :: u57 :: u58 :: u59 :: u60 :: u61 :: u62 :: u63 :: u64 :: u65 :: u66 :: u67 :: u68 :: u69 :: u70 :: u71 :: u72 :: u73 :: u74 :: u75 :: u76 :: u77 :: u78 :: u79 :: u80 :: u81 :: u82 :: u83 :: u84 :: u85 :: u86 :: u87 :: u88 :: u89 :: z90 :: z91 :: z92 :: z93 :: z94 :: z95 :: z96 :: z97 :: z98 :: z99 :: z100 :: z101 :: z102 :: z103 :: z104 :: z105 :: z106 :: z107 :: z108 :: z109 :: z110 :: z111 :: z112 :: z113 :: z114 :: z115 :: z116 :: z117 :: z118 :: z119 :: z120 :: z121 :: z122 :: z123 :: z124 :: z125 :: z126 :: z127 :: z128 :: z129 :: z130 :: z131 :: z132 :: z133 :: z134 :: [])) []) W)
    (hQn : q + 32 + 8 * r.L ≤ n → ∀ ao2 no2 co2 ys2 W2 {z12 z13 z14 z15 z16 z17 z90 z91 z92 z93 z94 z95 z96 z97 z98 z99 z100 z101 z102 z103 z104 z105 z106 z107 z108 z109 z110 z111 z112 z113 z114 z115 z116 z117 z118 z119 z120 z121 z122 z123 z124 z125 z126 z127 z128 z129 z130 z131 z132 z133 z134 : Value}, W2.ownsRow w0.heap.size 42 4 (.slice ao2 no2 co2) no2 (flY ys2) → ys2.length = no2 → (∀ y, y ∈ ys2 → Ans W2 w0.heap.size y.1.a y.1.n y.2 y.1.D) → ys2.map (fun y => absF y.1) = ys.map (fun y => absF y.1) ++ [(q, t, m, scrL (tuD t (dtB B q r.L)))] → Frm (fun _ => False) w0 W2 → BxS W2 g 23 #[.int .i64 (r.L : Nat), .int .i64 (r.F : Nat), .int .i64 (r.H : Nat), .int .i64 (r.M : Nat)] → Q .normal (Act.mk (List.toArray (u0 :: (.slice a n c) :: (.pointer (some ⟨g, 0, none⟩)) :: u3 :: u4 :: u5 :: (.slice ao2 no2 co2) :: (.int .i64 ((q + 32 + 8 * r.L : Nat) : Int)) :: (.bool true) :: (.bool t) :: (.int .i64 (m : Nat)) :: u11 :: z12 :: z13 :: z14 :: z15 :: z16 :: z17 :: u18 :: u19 :: u20 :: u21 :: u22 :: u23 :: u24 :: u25 :: u26 :: u27 :: u28 :: u29 :: u30 :: u31 :: u32 :: u33 :: u34 :: u35 :: u36 :: u37 :: u38 :: u39 :: u40 :: u41 :: u42 :: u43 :: u44 :: u45 :: u46 :: u47 :: u48 :: u49 :: u50 :: u51 :: u52 :: u53 :: u54 :: u55 :: u56 :: u57 :: u58 :: u59 :: u60 :: u61 :: u62 :: u63 :: u64 :: u65 :: u66 :: u67 :: u68 :: u69 :: u70 :: u71 :: u72 :: u73 :: u74 :: u75 :: u76 :: u77 :: u78 :: u79 :: u80 :: u81 :: u82 :: u83 :: u84 :: u85 :: u86 :: u87 :: u88 :: u89 :: z90 :: z91 :: z92 :: z93 :: z94 :: z95 :: z96 :: z97 :: z98 :: z99 :: z100 :: z101 :: z102 :: z103 :: z104 :: z105 :: z106 :: z107 :: z108 :: z109 :: z110 :: z111 :: z112 :: z113 :: z114 :: z115 :: z116 :: z117 :: z118 :: z119 :: z120 :: z121 :: z122 :: z123 :: z124 :: z125 :: z126 :: z127 :: z128 :: z129 :: z130 :: z131 :: z132 :: z133 :: z134 :: [])) []) W2) :
    Code.wp Try.prog (tailR 29 (Try.f10.body.getD .skip)) Q (Act.mk (List.toArray (u0 :: (.slice a n c) :: (.pointer (some ⟨g, 0, none⟩)) :: u3 :: u4 :: u5 :: (.slice ao no co) :: (.int .i64 (q : Nat)) :: (.bool true) :: (.bool t) :: (.int .i64 (m : Nat)) :: u11 :: u12 :: u13 :: u14 :: u15 :: u16 :: u17 :: u18 :: u19 :: u20 :: u21 :: u22 :: u23 :: u24 :: u25 :: u26 :: u27 :: u28 :: u29 :: u30 :: u31 :: u32 :: u33 :: u34 :: u35 :: u36 :: u37 :: u38 :: u39 :: u40 :: u41 :: u42 :: u43 :: u44 :: u45 :: u46 :: u47 :: u48 :: u49 :: u50 :: u51 :: u52 :: u53 :: u54 :: u55 :: u56 :: u57 :: u58 :: u59 :: u60 :: u61 :: u62 :: u63 :: u64 :: u65 :: u66 :: u67 :: u68 :: u69 :: u70 :: u71 :: u72 :: u73 :: u74 :: u75 :: u76 :: u77 :: u78 :: u79 :: u80 :: u81 :: u82 :: u83 :: u84 :: u85 :: u86 :: u87 :: u88 :: u89 :: u90 :: u91 :: u92 :: u93 :: u94 :: u95 :: u96 :: u97 :: u98 :: u99 :: u100 :: u101 :: u102 :: u103 :: u104 :: u105 :: u106 :: u107 :: u108 :: u109 :: u110 :: u111 :: u112 :: u113 :: u114 :: u115 :: u116 :: u117 :: u118 :: u119 :: u120 :: u121 :: u122 :: u123 :: u124 :: u125 :: u126 :: u127 :: u128 :: u129 :: u130 :: u131 :: u132 :: u133 :: u134 :: [])) []) W := by
  conv => enter [2]; whnf
  obtain ⟨i0, hi0, hzz, hz1, hz2⟩ := info_parts Try.info_fd
  have c0 : W.cell? ⟨g, 0, none⟩ = some (.int .i64 (r.L : Nat)) := b.cell 0 (by show 0 < 4; decide)
  have hBl := hR.len
  obtain ⟨EN, hEN⟩ : ∃ EN, EN = q + 32 + 8 * r.L := ⟨_, rfl⟩
  have hEi : (q : Int) + 32 + 8 * (r.L : Int) = (EN : Int) := by omega
  have HEN : Hid _ := hEN
  have HQR : Hid _ := @hQr
  have HQN : Hid _ := @hQn
  have hEb : EN ≤ 1048576 + 32 + 8 * 2048 := by omega
  clear hQr hQn hEN
  refine wp_seq_k fun K29 hK29 => ?_
  have HK29 : Hid _ := hK29
  clear hK29
  go_wp2
  (try simp only [Exit.inBlock, Exit.then])
  refine HK29.out _ _ ?_
  clear HK29
  by_cases hend : n < EN
  · have hei : (n : Int) < (EN : Int) := by omega
    refine wp_seq_k fun K30 hK30 => ?_
    have HK30 : Hid _ := hK30
    clear hK30
    go_wp2
    exact HQR.out (by have := HEN.out; omega)
  · have hei : ¬ (n : Int) < (EN : Int) := by omega
    refine wp_seq_k fun K30 hK30 => ?_
    have HK30 : Hid _ := hK30
    clear hK30
    go_wp2
    (try simp only [Exit.inBlock, Exit.then])
    refine HK30.out _ _ ?_
    clear HK30
    have HED : Hid (EN ≤ n) := (by show _ ≤ _; omega)
    clear hend c0 hEi
    refine wp_seq_k fun K32 hK32 => ?_
    have HK32 : Hid _ := hK32
    clear hK32
    go_wp2
    (try simp only [Exit.inBlock, Exit.then])
    refine HK32.out _ _ ?_
    clear HK32
    refine wp_seq_k fun K33 hK33 => ?_
    have HK33 : Hid _ := hK33
    clear hK33
    go_wp2
    go_loopw [13, 14] (fun v u wr => ∃ (k : Nat) (ab : Option Addr) (cb : Nat), v = .slice ab k cb ∧ (∃ ix : Nat, u = .int .i64 (ix : Nat) ∧ Hid (ix = q + 32 + k)) ∧ k ≤ 8 * r.L ∧ Ans wr W.heap.size ab k cb (fbN B q t k) ∧ Frm (fun _ => False) W wr) (fun _ u _ => EN - (intOf u).toNat)
    case atStart => exact ⟨0, none, 0, rfl, ⟨q + 32, by push_cast; rfl, rfl⟩, Nat.zero_le _, ans_nil _ _, Frm.refl _ _⟩
    case round =>
      obtain ⟨k, ab, cb, rfl, ⟨ix, rfl, HIX⟩, hk, hA, Fk⟩ := hrel
      by_cases hlt : k < 8 * r.L
      · have hie : (ix : Int) < (EN : Int) := by have h1 := HIX.out; have h2 := HEN.out; omega
        have hin : ix < n := by have h1 := HIX.out; have h2 := HEN.out; have h3 := HED.out; omega
        have hini : (ix : Int) < (n : Int) := by omega
        obtain ⟨bb, bo, rfl, hbl, hc⟩ := hR.at' (by omega)
        have cW := cell_frm (hc ix hin) ((Fr.trans Fk (fun _ _ h => h))) (fun h => h)
        have hx := hR.byte.nth ix
        have hand := and_bit (nth B ix) hx
        obtain ⟨y, hy⟩ : ∃ y, y = nth B ix % 2 := ⟨_, rfl⟩
        have hy2 : y < 2 := by omega
        rw [← hy] at hand
        have hxr := xor_one y hy2
        obtain ⟨y', hy'⟩ : ∃ y', y' = 1 - y := ⟨_, rfl⟩
        rw [← hy'] at hxr
        have hy'2 : y' < 256 := by omega
        have hy256 : y < 256 := by omega
        have HY : Hid (flp t (nth B (q + 32 + k) % 2) = if t then y' else y) := by
          show _ = _
          rw [← HIX.out, ← hy, hy']
          rfl
        generalize nth B ix = xx at *
        have HC : Hid _ := hc
        have HL8 : Hid _ := hlt
        have gK := Fk.gr
        clear hy hy' hc hlt
        have hkb : k + 1 ≤ 140737488355328 := by omega
        have fin : ∀ (z : Nat) (gx cx : Nat) (w2 : World), z = (if t then y' else y) → Ans w2 W.heap.size (some ⟨gx, 0, none⟩) (k + 1) cx (fbN B q t k ++ [z]) → W.grownBy w2 none → Ans w2 W.heap.size (some ⟨gx, 0, none⟩) (k + 1) cx (fbN B q t (k + 1)) ∧ Frm (fun _ => False) W w2 := fun z gx cx w2 hz h1 h2 => by
          rw [fb_add, HY.out, ← hz]
          exact ⟨h1, Frm.of h2 (fun k e _ => by cases e)⟩
        have FIN : Hid _ := fin
        clear fin
        cases t with
        | false =>
          refine wp_seq_k fun K20 hK20 => ?_
          have HK20 : Hid _ := hK20
          clear hK20
          refine wp_seq_k fun K21 hK21 => ?_
          have HK21 : Hid _ := hK21
          clear hK21
          go_wp2
          (try simp only [Exit.inBlock, Exit.then])
          refine HK21.out _ _ ?_
          clear HK21
          go_wp2
          (try simp only [Exit.inBlock, Exit.then])
          refine HK20.out _ _ ?_
          clear HK20
          refine wp_seq_k fun K22 hK22 => ?_
          have HK22 : Hid _ := hK22
          clear hK22
          refine wp_block ?_
          go_wp2_with (at_builtin; refine wpList_push2 W wr rfl _ _ rfl ab k cb y W.heap.size none _ rfl hA gK (fun g hg => .inr (hA.new g hg)) (Nat.le_refl _) (by omega) rfl hkb ?_; intro gx cx w2 hA2 hG2 hM2)
          (try simp only [Exit.inBlock, Exit.then])
          refine HK22.out _ _ ?_
          clear HK22
          obtain ⟨H1, H2⟩ := FIN.out y gx cx w2 rfl hA2 hG2
          have HH1 : Hid _ := H1
          have HH2 : Hid _ := H2
          clear H1 H2 hA2 hG2 hM2
          have hib : ix ≤ 2000000 := by omega
          go_wp2
          go_roundw
          case rel => exact ⟨k + 1, _, _, rfl, ⟨ix + 1, by go_num, (show _ = _ by have := HIX.out; omega)⟩, by have := HL8.out; omega, HH1.out, HH2.out⟩
          case measure => simp [intOf]; omega
        | true =>
          refine wp_seq_k fun K20 hK20 => ?_
          have HK20 : Hid _ := hK20
          clear hK20
          refine wp_seq_k fun K21 hK21 => ?_
          have HK21 : Hid _ := hK21
          clear hK21
          go_wp2
          (try simp only [Exit.inBlock, Exit.then])
          refine HK21.out _ _ ?_
          clear HK21
          go_wp2
          (try simp only [Exit.inBlock, Exit.then])
          refine HK20.out _ _ ?_
          clear HK20
          refine wp_seq_k fun K22 hK22 => ?_
          have HK22 : Hid _ := hK22
          clear hK22
          refine wp_block ?_
          go_wp2_with (at_builtin; refine wpList_push2 W wr rfl _ _ rfl ab k cb y' W.heap.size none _ rfl hA gK (fun g hg => .inr (hA.new g hg)) (Nat.le_refl _) (by omega) rfl hkb ?_; intro gx cx w2 hA2 hG2 hM2)
          (try simp only [Exit.inBlock, Exit.then])
          refine HK22.out _ _ ?_
          clear HK22
          obtain ⟨H1, H2⟩ := FIN.out y' gx cx w2 rfl hA2 hG2
          have HH1 : Hid _ := H1
          have HH2 : Hid _ := H2
          clear H1 H2 hA2 hG2 hM2
          have hib : ix ≤ 2000000 := by omega
          go_wp2
          go_roundw
          case rel => exact ⟨k + 1, _, _, rfl, ⟨ix + 1, by go_num, (show _ = _ by have := HIX.out; omega)⟩, by have := HL8.out; omega, HH1.out, HH2.out⟩
          case measure => simp [intOf]; omega
      · have hk8 : k = 8 * r.L := by omega
        have hie : ¬ (ix : Int) < (EN : Int) := by have h1 := HIX.out; have h2 := HEN.out; omega
        subst hk8
        have hAr := hA.rd
        have hby := rbytes_any ab (8 * r.L) cb (fbN B q t (8 * r.L)) wr hAr (by omega)
        have he0 : bytE (fbN B q t (8 * r.L)) = 0 := by
          unfold bytE
          rw [if_neg (by unfold fbN; rw [tab_len]; omega), if_pos (fun i hi => by
            unfold fbN at hi ⊢
            rw [tab_len] at hi
            rw [tab_nth _ _ _ hi]
            unfold flp
            have := Nat.mod_lt (nth B (q + 32 + i)) (show 0 < 2 by decide)
            split <;> omega)]
        rw [he0, fb_bytes] at hby
        have FW := Fr.trans Fk (fun _ _ h => h)
        have HOW : Hid _ := row_frm ho Fk (fun _ _ h => h)
        have HYDW : Hid (∀ y, y ∈ ys → Ans wr w0.heap.size y.1.a y.1.n y.2 y.1.D) := fun y h => (hyd y h).frm Fk (fun _ _ h => h)
        have HBW : Hid (BxS wr g 23 #[.int .i64 (r.L : Nat), .int .i64 (r.F : Nat), .int .i64 (r.H : Nat), .int .i64 (r.M : Nat)]) := (Fk.block g b.lt (fun h => h)).trans b
        have HFW : Hid _ := FW
        clear he0 hA hAr Fk FW HIX
        go_wp2
        (try simp only [Exit.inBlock, Exit.then])
        refine HK33.out _ _ ?_
        clear HK33
        refine wp_seq_k fun K40 hK40 => ?_
        have HK40 : Hid _ := hK40
        clear hK40
        go_wp2_with (go_at_call 20; refine hby.mono ?_; rintro e w3 ⟨a3, n3, c3, rfl, hA3, g3⟩)
        (try simp only [Exit.inBlock, Exit.then])
        refine HK40.out _ _ ?_
        clear HK40
        have hn3 : n3 = r.L := by
          have h1 := hA3.len
          cases t with
          | false =>
            have h2 : (tuD false (dtB B q r.L)).length = r.L := tab_len _ _
            omega
          | true =>
            have h2 : (tuD true (dtB B q r.L)).length = r.L := by
              show (tab (dtB B q r.L).length _).length = _
              rw [tab_len]; exact tab_len _ _
            omega
        subst hn3
        have F3 : Frm (fun _ => False) wr w3 := Frm.of g3 (fun k e _ => by cases e)
        have hsc := rscramble_any a3 r.L c3 _ w3 hA3.rd (by omega)
        have ho3 := row_frm HOW.out F3 (fun _ _ h => h)
        have hz3 := F3.size
        have hz0 := HFW.out.size
        clear hby g3
        obtain ⟨bx, hbx⟩ : ∃ bx : BxS wr g 23 #[.int .i64 (r.L : Nat), .int .i64 (r.F : Nat), .int .i64 (r.H : Nat), .int .i64 (r.M : Nat)], True := ⟨HBW.out, trivial⟩
        go_wp2_with (first
          | (go_at_call 21; refine hsc.mono ?_; rintro e w4 ⟨a4, c4, rfl, hA4, g4⟩; have F4 : Frm (fun _ => False) w3 w4 := Frm.of g4 (fun k e _ => by cases e); have ho4 := row_frm ho3 F4 (fun _ _ h => h); have OB := heap_alloc_new w4 (.cells #[.int .i64 (q : Nat), .bool t, .int .i64 (m : Nat), .slice a4 r.L c4] 42); have F5 : Frm (fun _ => False) w4 (w4.alloc (.cells #[.int .i64 (q : Nat), .bool t, .int .i64 (m : Nat), .slice a4 r.L c4] 42)) := Frm.of (World.grownBy_alloc w4 _ none) (fun k e _ => by cases e); have ho5 := row_frm ho4 F5 (fun _ _ h => h); have hz4 := F4.size; have hz5 := F5.size; have HO5 : Hid _ := ho5; have t5 : True := trivial)
          | (have _t := t5; clear t5; at_builtin; refine wpList_append_own_wide _ rfl _ _ _ rfl w0.heap.size 42 i0 (.agg #[.int .i64 0, .bool false, .int .i64 0, .slice none 0 0]) 4 48 Try.underlying33 hi0 hzz hz1 hz2 rfl (by decide) (.slice ao no co) no (flY ys) rfl HO5.out ⟨w4.heap.size, 0, none⟩ 1 1 (cellsY (⟨q, t, m, a4, r.L, scrL (tuD t (dtB B q r.L))⟩, c4)) rfl rfl (by exact cells_four _ _ _ _ _) (by simp [cellsY, Value.oneCell']) (by unfold maxLen; omega) (by omega) (by omega) ?_; intro v' w6 hown' hgrow _; obtain ⟨g', c', rfl⟩ := ownsRow_succ hown'))
        have hbs : ∀ x, (Value.slice ao no co).ownBlock = some x → w0.heap.size ≤ x ∧ ∃ cs, (w4.alloc (.cells #[.int .i64 (q : Nat), .bool t, .int .i64 (m : Nat), .slice a4 r.L c4] 42)).heap[x]? = some (.cells cs 42) := fun x hx => by
          rcases HO5.out.2 with ⟨e, _⟩ | ⟨g0, cap, cur, e, h1, h2, _⟩
          · rw [e] at hx; cases hx
          · rw [e] at hx
            have e2 : g0 = x := Option.some.inj hx
            subst e2
            exact ⟨h1, _, h2⟩
        have F6 : Frm (fun x => (Value.slice ao no co).ownBlock = some x) (w4.alloc (.cells #[.int .i64 (q : Nat), .bool t, .int .i64 (m : Nat), .slice a4 r.L c4] 42)) w6 := Frm.of hgrow (fun k e _ => e)
        have keepA : ∀ {aa : Option Addr} {nn cc lo : Nat} {LL : List Nat}, Ans (w4.alloc (.cells #[.int .i64 (q : Nat), .bool t, .int .i64 (m : Nat), .slice a4 r.L c4] 42)) lo aa nn cc LL → Ans w6 lo aa nn cc LL := fun h => h.frm F6 (fun x hx hp => by
          obtain ⟨_, cs, e⟩ := hbs x hp
          obtain ⟨_, cs2, e2⟩ := row_lt h.own hx
          exact cells_ne e2 e (by decide))
        have F36 := F3.trans F4 (fun _ _ h => h)
        have F35 := F36.trans F5 (fun _ _ h => h)
        have FA : Frm (fun _ => False) w0 w6 := (HFW.out.trans F35 (fun _ _ h => h)).trans F6 (fun k hk h => by have := (hbs k h).1; omega)
        have hb5 : BxS (w4.alloc (.cells #[.int .i64 (q : Nat), .bool t, .int .i64 (m : Nat), .slice a4 r.L c4] 42)) g 23 #[.int .i64 (r.L : Nat), .int .i64 (r.F : Nat), .int .i64 (r.H : Nat), .int .i64 (r.M : Nat)] := (F35.block g (BxS.lt HBW.out) (fun h => h)).trans HBW.out
        have hb6 : BxS w6 g 23 #[.int .i64 (r.L : Nat), .int .i64 (r.F : Nat), .int .i64 (r.H : Nat), .int .i64 (r.M : Nat)] := (F6.block g (BxS.lt hb5) (fun h => by
          obtain ⟨_, cs, e⟩ := hbs g h
          exact cells_ne e hb5 (by decide))).trans hb5
        rw [flY_add] at hown'
        have HOUT : Hid (w6.ownsRow w0.heap.size 42 4 (.slice (some ⟨g', 0, none⟩) (no + 1) c') (no + 1) (flY (ys ++ [(⟨q, t, m, a4, r.L, scrL (tuD t (dtB B q r.L))⟩, c4)])) ∧ (∀ y, y ∈ ys ++ [((⟨q, t, m, a4, r.L, scrL (tuD t (dtB B q r.L))⟩ : Fv), c4)] → Ans w6 w0.heap.size y.1.a y.1.n y.2 y.1.D) ∧ Frm (fun _ => False) w0 w6 ∧ BxS w6 g 23 #[.int .i64 (r.L : Nat), .int .i64 (r.F : Nat), .int .i64 (r.H : Nat), .int .i64 (r.M : Nat)]) := ⟨hown', fun y hy => by
          rcases List.mem_append.1 hy with h | h
          · exact keepA ((HYDW.out y h).frm F35 (fun _ _ h => h))
          · rw [List.mem_singleton.1 h]
            exact keepA ((hA4.frm F5 (fun _ _ h => h)).wide (by omega)), FA, hb6⟩
        clear hown' hgrow hb5 hb6 FA F35 F36 F6 hbs F3 F4 F5 ho3 ho4 ho5 hA4 hA3 g4 bx hbx hsc
        have hEN2 := HEN.out
        go_wp2
        subst hEN2
        exact HQN.out HED.out (some ⟨g', 0, none⟩) (no + 1) c' (ys ++ [(⟨q, t, m, a4, r.L, scrL (tuD t (dtB B q r.L))⟩, c4)]) w6 HOUT.out.1 (by rw [List.length_append, hyl]; rfl) HOUT.out.2.1 (by rw [List.map_append]; rfl) HOUT.out.2.2.1 HOUT.out.2.2.2
end
end Go.Proofs.Ythdjpbfknbafgaa
