import Derived.Test.YtnimehkfnpepfaaRp15
import Derived.Test.YtnimehkfnpepfaaRp8
import Derived.Test.YtnimehkfnpepfaaRp13
namespace Go.Proofs.Ytnimehkfnpepfaa
open Go.RowKit
set_option maxRecDepth 100000
set_option linter.unusedVariables false
set_option linter.unusedSimpArgs false

section
/-- a giver as data -/
structure Gv where
  id : Int
  nm : ByteArray
  mo : Int
  bu : Int
  st : Int
  fi : Bool
  at' : Int
  ti : Int
  pa : Int
  tr : Int
  li : Int
  L : List Nat
  G : List (Int × Int)
/-- an answer of a giver in data form -/
def RV (w : World) (R : Gv × List Nx × Nat) (e : Ending) (w' : World) : Prop := RpA w R.1.id R.1.nm R.1.mo R.1.bu R.1.st R.1.fi R.1.at' R.1.ti R.1.pa R.1.tr R.1.li R.1.L R.1.G R.2.1 R.2.2 e w'
def zGv : Gv := ⟨0, ⟨#[]⟩, 0, 0, 0, false, 0, 0, 0, 0, 0, [], []⟩
/-- behind the tests of what comes -/
def rpX (V : Gv) (kd o co : Int) (F2 : Nat → Int × Int) (gm : Nat) : Gv × List Nx × Nat :=
  if kd ≠ 4 ∧ kd ≠ 5 ∧ kd ≠ 6 then (V, [], 6)
  else if V.st = 4 then (V, [], 0)
  else if kd = 5 then (if V.st = 3 then (V, [xSeen V.id], 0) else ({ V with st := if co = 0 then 3 else 4, fi := false, at' := (V.L.length : Int), G := [] }, [xSeen V.id], 0))
  else if V.st = 3 then (V, [], 0)
  else ({ V with st := if o = 3 ∧ V.st = 1 then 2 else V.st, ti := 0, tr := 0, G := agN V.L.length V.G F2 gm }, [], 0)
/-- what Reply answers -/
def rpV (gB may : Bool) (V : Gv) (kd nid o co : Int) (F2 : Nat → Int × Int) (gm : Nat) : Gv × List Nx × Nat :=
  if gB = false then (zGv, [], 11) else if may = false then (V, [], 8) else if nid ≠ V.id then (V, [], 10) else rpX V kd o co F2 gm
theorem ntB_kd {kd id : Int} {nm : Nat} {si su at' : Int} {n m : Nat} {o co : Int} {g : Bool} (h : ntB kd id nm si su at' n m o co g = true) : (kd = 1 ∨ kd = 2 ∨ kd = 3 ∨ kd = 4 ∨ kd = 5 ∨ kd = 6) ∧ (kd = 4 → g = true ∧ o = 0) ∧ (kd ≠ 4 → m = 0) := by
  unfold ntB ptB brB at h
  simp only [Bool.and_eq_true, decide_eq_true_eq] at h
  obtain ⟨⟨_, h1⟩, h2⟩ := h
  refine ⟨by omega, fun hk => ⟨?_, by omega⟩, by omega⟩
  rcases h1 with h | h | h | h | h | h
  · omega
  · omega
  · omega
  · exact h.2.2.2
  · omega
  · omega
theorem gvB_parts {id : Int} {nm n : Nat} {mo bu st : Int} {fi : Bool} {at' : Int} {m : Nat} {al : Bool} {ti pa tr li : Int} (h : gvB id nm n mo bu st fi at' m al ti pa tr li = true) : (0 ≤ st ∧ st ≤ 4) ∧ m ≤ 1000 ∧ al = true := by
  unfold gvB stB at h
  simp only [Bool.and_eq_true, decide_eq_true_eq] at h
  obtain ⟨_, h1, _, h2, h3, _⟩ := h
  refine ⟨?_, h2, h3⟩
  by_cases e : st = 0
  · omega
  · rw [if_neg e] at h1
    by_cases e2 : 1 ≤ st ∧ st ≤ 4
    · omega
    · rw [if_neg e2] at h1; cases h1

set_option maxHeartbeats 16000000 in
theorem rr_t12 {u0 u1 u2 u5 u6 u8 u9 u10 u11 u12 u13 u14 u15 u16 u17 u18 u19 u20 u21 u22 u23 u24 u25 u26 u27 u28 u29 u30 u31 u32 u33 u34 u35 u36 u37 u38 u39 u40 u41 u42 u43 u44 u45 u46 u47 u48 u49 u50 u51 u52 u53 u54 u55 u56 u57 u58 u59 u60 u61 u62 u63 u64 u65 u66 u67 u68 u69 u70 u71 u72 u73 u74 u75 u76 u77 u78 u79 u80 u81 u82 u83 u84 u85 u86 u87 u88 u89 u90 u91 u92 u93 u94 u95 u96 u97 u98 u99 u100 u101 u102 u103 u104 u105 u106 u107 u108 u109 u110 u111 u112 u113 u114 u115 u116 u117 u118 u119 u120 u121 u122 u123 u124 u125 u126 u127 u128 u129 u130 u131 u132 u133 u134 : Value} (P : Ending → World → Prop) (wB w : World) (g3 g4 g7 : Nat) (kd nid : Int) (nm2 : ByteArray) (si su at2 : Int) (pa2 : Option Addr) (pn pc : Nat) (ga : Option Addr) (gm gd : Nat) (o co : Int) (id : Int) (nm : ByteArray) (mo bu st : Int) (fi : Bool) (at' ti pa tr li : Int) (a : Option Addr) (n c : Nat) (L : List Nat) (q : Option Addr) (m d : Nat) (G : List (Int × Int)) (h : DG wB w g3 g4 g7 (#[.int .i64 kd, .int .i64 nid, .string nm2, .int .i64 si, .int .i64 su, .int .i64 at2, .slice pa2 pn pc, .slice ga gm gd, .int .i64 o, .int .i64 co]) id nm mo bu st fi at' ti pa tr li a n c L q m d G) (F2 : Nat → Int × Int) (hF2 : RdG wB ga gm gd F2) (hm : m ≤ 1000) (hal : alG F2 65536 gm = true) (hk : kd = 5 ∨ kd = 6 ∨ (kd = 4 ∧ o ≠ 3)) (hs4 : st ≠ 4) (hP : ∀ e w', RV wB (rpX (⟨id, nm, mo, bu, st, fi, at', ti, pa, tr, li, L, G⟩ : Gv) kd o co F2 gm) e w' → P e w') :
    Code.wp Try.prog (tailR 12 (Try.f33.body.getD .skip)) (bodyPost Try.prog Try.f33 P) (Act.mk (List.toArray (u0 :: u1 :: u2 :: (.pointer (some ⟨g3, 0, none⟩)) :: (.pointer (some ⟨g4, 0, none⟩)) :: u5 :: u6 :: (.pointer (some ⟨g7, 0, none⟩)) :: u8 :: u9 :: u10 :: u11 :: u12 :: u13 :: u14 :: u15 :: u16 :: u17 :: u18 :: u19 :: u20 :: u21 :: u22 :: u23 :: u24 :: u25 :: u26 :: u27 :: u28 :: u29 :: u30 :: u31 :: u32 :: u33 :: u34 :: u35 :: u36 :: u37 :: u38 :: u39 :: u40 :: u41 :: u42 :: u43 :: u44 :: u45 :: u46 :: u47 :: u48 :: u49 :: u50 :: u51 :: u52 :: u53 :: u54 :: u55 :: u56 :: u57 :: u58 :: u59 :: u60 :: u61 :: u62 :: u63 :: u64 :: u65 :: u66 :: u67 :: u68 :: u69 :: u70 :: u71 :: u72 :: u73 :: u74 :: u75 :: u76 :: u77 :: u78 :: u79 :: u80 :: u81 :: u82 :: u83 :: u84 :: u85 :: u86 :: u87 :: u88 :: u89 :: u90 :: u91 :: u92 :: u93 :: u94 :: u95 :: u96 :: u97 :: u98 :: u99 :: u100 :: u101 :: u102 :: u103 :: u104 :: u105 :: u106 :: u107 :: u108 :: u109 :: u110 :: u111 :: u112 :: u113 :: u114 :: u115 :: u116 :: u117 :: u118 :: u119 :: u120 :: u121 :: u122 :: u123 :: u124 :: u125 :: u126 :: u127 :: u128 :: u129 :: u130 :: u131 :: u132 :: u133 :: u134 :: [])) []) w := by
  conv => enter [2]; whnf
  have HP : Hid _ := hP
  clear hP
  have hn : L.length = n := h.A.len
  have HN : Hid _ := hn
  clear hn
  have e0 : w.cell? ⟨g3, 0, none⟩ = some (.int .i64 kd) := h.b3.cell 0 (by show 0 < 10; decide)
  have x5 : w.cell? ⟨g7, 5, none⟩ = some (.int .i64 st) := h.b7.cell 5 (by show 5 < 13; decide)
  by_cases hk5 : kd = 5
  · subst hk5
    clear hk
    refine wp_seq_k fun K1 hK1 => ?_
    have HK1 : Hid _ := hK1
    clear hK1
    refine wp_seq_k fun K2 hK2 => ?_
    have HK2 : Hid _ := hK2
    clear hK2
    go_wp2
    refine HK2.out _ _ ?_
    clear HK2
    refine wp_cond_true rfl ?_
    clear HK1
    refine wp_seq_k fun K3 hK3 => ?_
    have HK3 : Hid _ := hK3
    clear hK3
    by_cases hs3 : st = 3
    · subst hs3
      have HX : Hid (rpX (⟨id, nm, mo, bu, 3, fi, at', ti, pa, tr, li, L, G⟩ : Gv) 5 o co F2 gm = ((⟨id, nm, mo, bu, 3, fi, at', ti, pa, tr, li, L, G⟩ : Gv), [xSeen id], 0)) := rfl
      go_wp2
      refine HK3.out _ _ ?_
      clear HK3
      refine rr_t20 _ wB w g3 g4 g7 5 nid nm2 si su at2 pa2 pn pc ga gm gd o co id nm mo bu 3 fi at' ti pa tr li a n c L q m d G h (fun c a a' wz e h => by cases a; cases a'; cases e; exact h) ?_
      intros
      rename_i w9 gn b9 r9
      simp only [Exit.then]
      refine bodyPost_ret (results_c1t2 rfl _ _ _ ⟨g4, 0, none⟩ _ _ _ rfl (BxS.load (t := 44) b9 Try.underlying44 Try.info_gv) rfl rfl) rfl ?_
      refine HP.out _ _ ?_
      rw [HX.out]
      exact r9
    · have HS3 : Hid _ := hs3
      refine wp_seq_k fun K4 hK4 => ?_
      have HK4 : Hid _ := hK4
      clear hK4
      go_wp2
      refine HK4.out _ _ ?_
      clear HK4
      refine wp_cond_true (show Value.bool (!(st == 3)) = Value.bool true by rw [beq_eq_false_iff_ne.2 HS3.out]; rfl) ?_
      by_cases hco : co = 0
      · subst hco
        have HX : Hid (rpX (⟨id, nm, mo, bu, st, fi, at', ti, pa, tr, li, L, G⟩ : Gv) 5 o 0 F2 gm = ((⟨id, nm, mo, bu, 3, false, (n : Int), ti, pa, tr, li, L, []⟩ : Gv), [xSeen id], 0)) := by
          show _ = _
          unfold rpX
          rw [if_neg (by omega), if_neg hs4, if_pos rfl, if_neg hs3, if_pos rfl, HN.out]
        refine wp_seq_k fun K5 hK5 => ?_
        have HK5 : Hid _ := hK5
        clear hK5
        have s0 : True := trivial
        go_wp2_with (have _t := s0; clear s0; refine wpList_stC _ rfl _ _ _ rfl g7 5 44 _ #[.int .i64 id, .string nm, .slice a n c, .int .i64 mo, .int .i64 bu, .int .i64 3, .bool fi, .int .i64 at', .slice q m d, .int .i64 ti, .int .i64 pa, .int .i64 tr, .int .i64 li] (.int .i64 3) rfl rfl h.b7 (stc_stg _ _ _) (by show 5 < 13; decide) rfl ?_; intro w1 bw1 uw1)
        refine HK5.out _ _ ?_
        clear HK5
        have h1 := h.set uw1 bw1
        refine wp_seq_k fun K6 hK6 => ?_
        have HK6 : Hid _ := hK6
        clear hK6
        have e9 : w1.cell? ⟨g3, 9, none⟩ = some (.int .i64 0) := h1.b3.cell 9 (by show 9 < 10; decide)
        go_wp2
        refine HK6.out _ _ ?_
        clear HK6
        have h2 := h1
        refine wp_seq_k fun K7 hK7 => ?_
        have HK7 : Hid _ := hK7
        clear hK7
        have s0 : True := trivial
        go_wp2_with (have _t := s0; clear s0; refine wpList_stC _ rfl _ _ _ rfl g7 8 44 _ #[.int .i64 id, .string nm, .slice a n c, .int .i64 mo, .int .i64 bu, .int .i64 3, .bool fi, .int .i64 at', .slice none 0 0, .int .i64 ti, .int .i64 pa, .int .i64 tr, .int .i64 li] (.slice none 0 0) rfl rfl h2.b7 (stc_slG _ _ _ _ _) (by show 8 < 13; decide) rfl ?_; intro w3 bw3 uw3)
        refine HK7.out _ _ ?_
        clear HK7
        have h3 := h2.set0 uw3 bw3
        refine wp_seq_k fun K8 hK8 => ?_
        have HK8 : Hid _ := hK8
        clear hK8
        have s0 : True := trivial
        go_wp2_with (have _t := s0; clear s0; refine wpList_stC _ rfl _ _ _ rfl g7 6 44 _ #[.int .i64 id, .string nm, .slice a n c, .int .i64 mo, .int .i64 bu, .int .i64 3, .bool false, .int .i64 at', .slice none 0 0, .int .i64 ti, .int .i64 pa, .int .i64 tr, .int .i64 li] (.bool false) rfl rfl h3.b7 (stc_bool _ _ _) (by show 6 < 13; decide) rfl ?_; intro w4 bw4 uw4)
        refine HK8.out _ _ ?_
        clear HK8
        have h4 := h3.set uw4 bw4
        have x2 : w4.cell? ⟨g7, 2, none⟩ = some (.slice a n c) := h4.b7.cell 2 (by show 2 < 13; decide)
        have s0 : True := trivial
        go_wp2_with (have _t := s0; clear s0; refine wpList_stC _ rfl _ _ _ rfl g7 7 44 _ #[.int .i64 id, .string nm, .slice a n c, .int .i64 mo, .int .i64 bu, .int .i64 3, .bool false, .int .i64 (n : Int), .slice none 0 0, .int .i64 ti, .int .i64 pa, .int .i64 tr, .int .i64 li] (.int .i64 (n : Int)) rfl rfl h4.b7 (stc_int _ _ _) (by show 7 < 13; decide) rfl ?_; intro w5 bw5 uw5)
        have h5 := h4.set uw5 bw5
        try simp only [Exit.then]
        refine HK3.out _ _ ?_
        clear HK3
        refine rr_t20 _ wB w5 g3 g4 g7 5 nid nm2 si su at2 pa2 pn pc ga gm gd o 0 id nm mo bu 3 false (n : Int) ti pa tr li a n c L none 0 0 [] h5 (fun c a a' wz e h => by cases a; cases a'; cases e; exact h) ?_
        intros
        rename_i w9 gn b9 r9
        simp only [Exit.then]
        refine bodyPost_ret (results_c1t2 rfl _ _ _ ⟨g4, 0, none⟩ _ _ _ rfl (BxS.load (t := 44) b9 Try.underlying44 Try.info_gv) rfl rfl) rfl ?_
        refine HP.out _ _ ?_
        rw [HX.out]
        exact r9
      · have HX : Hid (rpX (⟨id, nm, mo, bu, st, fi, at', ti, pa, tr, li, L, G⟩ : Gv) 5 o co F2 gm = ((⟨id, nm, mo, bu, 4, false, (n : Int), ti, pa, tr, li, L, []⟩ : Gv), [xSeen id], 0)) := by
          show _ = _
          unfold rpX
          rw [if_neg (by omega), if_neg hs4, if_pos rfl, if_neg hs3, if_neg hco, HN.out]
        refine wp_seq_k fun K5 hK5 => ?_
        have HK5 : Hid _ := hK5
        clear hK5
        have s0 : True := trivial
        go_wp2_with (have _t := s0; clear s0; refine wpList_stC _ rfl _ _ _ rfl g7 5 44 _ #[.int .i64 id, .string nm, .slice a n c, .int .i64 mo, .int .i64 bu, .int .i64 3, .bool fi, .int .i64 at', .slice q m d, .int .i64 ti, .int .i64 pa, .int .i64 tr, .int .i64 li] (.int .i64 3) rfl rfl h.b7 (stc_stg _ _ _) (by show 5 < 13; decide) rfl ?_; intro w1 bw1 uw1)
        refine HK5.out _ _ ?_
        clear HK5
        have h1 := h.set uw1 bw1
        refine wp_seq_k fun K6 hK6 => ?_
        have HK6 : Hid _ := hK6
        clear hK6
        have e9 : w1.cell? ⟨g3, 9, none⟩ = some (.int .i64 co) := h1.b3.cell 9 (by show 9 < 10; decide)
        have s0 : True := trivial
        go_wp2_with (have _t := s0; clear s0; refine wpList_stC _ rfl _ _ _ rfl g7 5 44 _ #[.int .i64 id, .string nm, .slice a n c, .int .i64 mo, .int .i64 bu, .int .i64 4, .bool fi, .int .i64 at', .slice q m d, .int .i64 ti, .int .i64 pa, .int .i64 tr, .int .i64 li] (.int .i64 4) rfl rfl h1.b7 (stc_stg _ _ _) (by show 5 < 13; decide) rfl ?_; intro w2 bw2 uw2)
        refine HK6.out _ _ ?_
        clear HK6
        have h2 := h1.set uw2 bw2
        refine wp_seq_k fun K7 hK7 => ?_
        have HK7 : Hid _ := hK7
        clear hK7
        have s0 : True := trivial
        go_wp2_with (have _t := s0; clear s0; refine wpList_stC _ rfl _ _ _ rfl g7 8 44 _ #[.int .i64 id, .string nm, .slice a n c, .int .i64 mo, .int .i64 bu, .int .i64 4, .bool fi, .int .i64 at', .slice none 0 0, .int .i64 ti, .int .i64 pa, .int .i64 tr, .int .i64 li] (.slice none 0 0) rfl rfl h2.b7 (stc_slG _ _ _ _ _) (by show 8 < 13; decide) rfl ?_; intro w3 bw3 uw3)
        refine HK7.out _ _ ?_
        clear HK7
        have h3 := h2.set0 uw3 bw3
        refine wp_seq_k fun K8 hK8 => ?_
        have HK8 : Hid _ := hK8
        clear hK8
        have s0 : True := trivial
        go_wp2_with (have _t := s0; clear s0; refine wpList_stC _ rfl _ _ _ rfl g7 6 44 _ #[.int .i64 id, .string nm, .slice a n c, .int .i64 mo, .int .i64 bu, .int .i64 4, .bool false, .int .i64 at', .slice none 0 0, .int .i64 ti, .int .i64 pa, .int .i64 tr, .int .i64 li] (.bool false) rfl rfl h3.b7 (stc_bool _ _ _) (by show 6 < 13; decide) rfl ?_; intro w4 bw4 uw4)
        refine HK8.out _ _ ?_
        clear HK8
        have h4 := h3.set uw4 bw4
        have x2 : w4.cell? ⟨g7, 2, none⟩ = some (.slice a n c) := h4.b7.cell 2 (by show 2 < 13; decide)
        have s0 : True := trivial
        go_wp2_with (have _t := s0; clear s0; refine wpList_stC _ rfl _ _ _ rfl g7 7 44 _ #[.int .i64 id, .string nm, .slice a n c, .int .i64 mo, .int .i64 bu, .int .i64 4, .bool false, .int .i64 (n : Int), .slice none 0 0, .int .i64 ti, .int .i64 pa, .int .i64 tr, .int .i64 li] (.int .i64 (n : Int)) rfl rfl h4.b7 (stc_int _ _ _) (by show 7 < 13; decide) rfl ?_; intro w5 bw5 uw5)
        have h5 := h4.set uw5 bw5
        try simp only [Exit.then]
        refine HK3.out _ _ ?_
        clear HK3
        refine rr_t20 _ wB w5 g3 g4 g7 5 nid nm2 si su at2 pa2 pn pc ga gm gd o co id nm mo bu 4 false (n : Int) ti pa tr li a n c L none 0 0 [] h5 (fun c a a' wz e h => by cases a; cases a'; cases e; exact h) ?_
        intros
        rename_i w9 gn b9 r9
        simp only [Exit.then]
        refine bodyPost_ret (results_c1t2 rfl _ _ _ ⟨g4, 0, none⟩ _ _ _ rfl (BxS.load (t := 44) b9 Try.underlying44 Try.info_gv) rfl rfl) rfl ?_
        refine HP.out _ _ ?_
        rw [HX.out]
        exact r9
  · by_cases hs3 : st = 3
    · subst hs3
      have HX : Hid (rpX (⟨id, nm, mo, bu, 3, fi, at', ti, pa, tr, li, L, G⟩ : Gv) kd o co F2 gm = ((⟨id, nm, mo, bu, 3, fi, at', ti, pa, tr, li, L, G⟩ : Gv), [], 0)) := by
        show _ = _
        unfold rpX
        rw [if_neg (by omega), if_neg hs4, if_neg hk5, if_pos rfl]
      refine wp_seq_k fun K1 hK1 => ?_
      have HK1 : Hid _ := hK1
      clear hK1
      go_wp2
      refine HK1.out _ _ ?_
      clear HK1
      obtain ⟨cs4, hs4, b4⟩ := h.b4
      have i13 := Try.info_gv
      have s0 : True := trivial
      go_wp2_with (first
        | (have _t := s0; clear s0; refine wpList_ldX _ rfl _ (.tmp 7) rfl g7 _ rfl h.b7 Try.underlying44 i13 ?_; have s1 : True := trivial)
        | (have _t := s1; clear s1; refine wpList_stX _ rfl _ (.tmp 4) (.tmp 69) rfl g4 _ _ rfl rfl b4 i13 hs4 (by simp [Value.oneCell']) ?_; intro wA bA uA))
      refine bodyPost_ret (results_c1t2 rfl _ _ _ ⟨g4, 0, none⟩ _ _ _ rfl (BxS.load (t := 44) bA Try.underlying44 Try.info_gv) rfl rfl) rfl ?_
      exact HP.out _ _ (HX.out ▸ (h.fin uA 0))
    · have HX : Hid (rpX (⟨id, nm, mo, bu, st, fi, at', ti, pa, tr, li, L, G⟩ : Gv) kd o co F2 gm = ((⟨id, nm, mo, bu, (if o = 3 ∧ st = 1 then 2 else st), fi, at', 0, pa, 0, li, L, agN n G F2 gm⟩ : Gv), [], 0)) := by
        show _ = _
        unfold rpX
        rw [if_neg (by omega), if_neg hs4, if_neg hk5, if_neg hs3, HN.out]
      refine wp_seq_k fun K1 hK1 => ?_
      have HK1 : Hid _ := hK1
      clear hK1
      go_wp2
      refine HK1.out _ _ ?_
      clear HK1
      refine wp_seq_k fun K2 hK2 => ?_
      have HK2 : Hid _ := hK2
      clear hK2
      go_wp2
      refine HK2.out _ _ ?_
      clear HK2
      refine rr_t23 P wB w g3 g4 g7 kd nid nm2 si su at2 pa2 pn pc ga gm gd o co id nm mo bu st fi at' ti pa tr li a n c L q m d G h F2 hF2 hm hal (by omega) _ rfl ?_
      intro e w' h9
      refine HP.out e w' ?_
      rw [HX.out]
      exact h9

set_option maxHeartbeats 16000000 in
theorem rr_t10 {u0 u1 u2 u5 u6 u8 u9 u10 u11 u12 u13 u14 u15 u16 u17 u18 u19 u20 u21 u22 u23 u24 u25 u26 u27 u28 u29 u30 u31 u32 u33 u34 u35 u36 u37 u38 u39 u40 u41 u42 u43 u44 u45 u46 u47 u48 u49 u50 u51 u52 u53 u54 u55 u56 u57 u58 u59 u60 u61 u62 u63 u64 u65 u66 u67 u68 u69 u70 u71 u72 u73 u74 u75 u76 u77 u78 u79 u80 u81 u82 u83 u84 u85 u86 u87 u88 u89 u90 u91 u92 u93 u94 u95 u96 u97 u98 u99 u100 u101 u102 u103 u104 u105 u106 u107 u108 u109 u110 u111 u112 u113 u114 u115 u116 u117 u118 u119 u120 u121 u122 u123 u124 u125 u126 u127 u128 u129 u130 u131 u132 u133 u134 : Value} (P : Ending → World → Prop) (wB w : World) (g3 g4 g7 : Nat) (kd nid : Int) (nm2 : ByteArray) (si su at2 : Int) (pa2 : Option Addr) (pn pc : Nat) (ga : Option Addr) (gm gd : Nat) (o co : Int) (id : Int) (nm : ByteArray) (mo bu st : Int) (fi : Bool) (at' ti pa tr li : Int) (a : Option Addr) (n c : Nat) (L : List Nat) (q : Option Addr) (m d : Nat) (G : List (Int × Int)) (h : DG wB w g3 g4 g7 (#[.int .i64 kd, .int .i64 nid, .string nm2, .int .i64 si, .int .i64 su, .int .i64 at2, .slice pa2 pn pc, .slice ga gm gd, .int .i64 o, .int .i64 co]) id nm mo bu st fi at' ti pa tr li a n c L q m d G) (F2 : Nat → Int × Int) (hF2 : RdG wB ga gm gd F2) (hm : m ≤ 1000) (hal : alG F2 65536 gm = true) (hk : kd = 5 ∨ kd = 6 ∨ (kd = 4 ∧ o ≠ 3)) (hP : ∀ e w', RV wB (rpX (⟨id, nm, mo, bu, st, fi, at', ti, pa, tr, li, L, G⟩ : Gv) kd o co F2 gm) e w' → P e w') :
    Code.wp Try.prog (tailR 10 (Try.f33.body.getD .skip)) (bodyPost Try.prog Try.f33 P) (Act.mk (List.toArray (u0 :: u1 :: u2 :: (.pointer (some ⟨g3, 0, none⟩)) :: (.pointer (some ⟨g4, 0, none⟩)) :: u5 :: u6 :: (.pointer (some ⟨g7, 0, none⟩)) :: u8 :: u9 :: u10 :: u11 :: u12 :: u13 :: u14 :: u15 :: u16 :: u17 :: u18 :: u19 :: u20 :: u21 :: u22 :: u23 :: u24 :: u25 :: u26 :: u27 :: u28 :: u29 :: u30 :: u31 :: u32 :: u33 :: u34 :: u35 :: u36 :: u37 :: u38 :: u39 :: u40 :: u41 :: u42 :: u43 :: u44 :: u45 :: u46 :: u47 :: u48 :: u49 :: u50 :: u51 :: u52 :: u53 :: u54 :: u55 :: u56 :: u57 :: u58 :: u59 :: u60 :: u61 :: u62 :: u63 :: u64 :: u65 :: u66 :: u67 :: u68 :: u69 :: u70 :: u71 :: u72 :: u73 :: u74 :: u75 :: u76 :: u77 :: u78 :: u79 :: u80 :: u81 :: u82 :: u83 :: u84 :: u85 :: u86 :: u87 :: u88 :: u89 :: u90 :: u91 :: u92 :: u93 :: u94 :: u95 :: u96 :: u97 :: u98 :: u99 :: u100 :: u101 :: u102 :: u103 :: u104 :: u105 :: u106 :: u107 :: u108 :: u109 :: u110 :: u111 :: u112 :: u113 :: u114 :: u115 :: u116 :: u117 :: u118 :: u119 :: u120 :: u121 :: u122 :: u123 :: u124 :: u125 :: u126 :: u127 :: u128 :: u129 :: u130 :: u131 :: u132 :: u133 :: u134 :: [])) []) w := by
  conv => enter [2]; whnf
  have HP : Hid _ := hP
  clear hP
  have x5 : w.cell? ⟨g7, 5, none⟩ = some (.int .i64 st) := h.b7.cell 5 (by show 5 < 13; decide)
  by_cases hs4 : st = 4
  · subst hs4
    have HX : Hid (rpX (⟨id, nm, mo, bu, 4, fi, at', ti, pa, tr, li, L, G⟩ : Gv) kd o co F2 gm = ((⟨id, nm, mo, bu, 4, fi, at', ti, pa, tr, li, L, G⟩ : Gv), [], 0)) := by
      show _ = _
      unfold rpX
      rw [if_neg (by omega), if_pos rfl]
    have HK9 : Hid _ := hk
    clear hk
    obtain ⟨cs4, hs4, b4⟩ := h.b4
    have i13 := Try.info_gv
    have s0 : True := trivial
    go_wp2_with (first
      | (have _t := s0; clear s0; refine wpList_ldX _ rfl _ (.tmp 7) rfl g7 _ rfl h.b7 Try.underlying44 i13 ?_; have s1 : True := trivial)
      | (have _t := s1; clear s1; refine wpList_stX _ rfl _ (.tmp 4) (.tmp 43) rfl g4 _ _ rfl rfl b4 i13 hs4 (by simp [Value.oneCell']) ?_; intro wA bA uA))
    refine bodyPost_ret (results_c1t2 rfl _ _ _ ⟨g4, 0, none⟩ _ _ _ rfl (BxS.load (t := 44) bA Try.underlying44 Try.info_gv) rfl rfl) rfl ?_
    exact HP.out _ _ (HX.out ▸ (h.fin uA 0))
  · have HK9 : Hid _ := hk
    clear hk
    refine wp_seq_k fun K1 hK1 => ?_
    have HK1 : Hid _ := hK1
    clear hK1
    go_wp2
    refine HK1.out _ _ ?_
    clear HK1
    exact rr_t12 P wB w g3 g4 g7 kd nid nm2 si su at2 pa2 pn pc ga gm gd o co id nm mo bu st fi at' ti pa tr li a n c L q m d G h F2 hF2 hm hal HK9.out hs4 HP.out

set_option maxHeartbeats 16000000 in
theorem rr_t8 {u0 u1 u2 u5 u6 u8 u9 u10 u11 u12 u13 u14 u15 u16 u17 u18 u19 u20 u21 u22 u23 u24 u25 u26 u27 u28 u29 u30 u31 u32 u33 u34 u35 u36 u37 u38 u39 u40 u41 u42 u43 u44 u45 u46 u47 u48 u49 u50 u51 u52 u53 u54 u55 u56 u57 u58 u59 u60 u61 u62 u63 u64 u65 u66 u67 u68 u69 u70 u71 u72 u73 u74 u75 u76 u77 u78 u79 u80 u81 u82 u83 u84 u85 u86 u87 u88 u89 u90 u91 u92 u93 u94 u95 u96 u97 u98 u99 u100 u101 u102 u103 u104 u105 u106 u107 u108 u109 u110 u111 u112 u113 u114 u115 u116 u117 u118 u119 u120 u121 u122 u123 u124 u125 u126 u127 u128 u129 u130 u131 u132 u133 u134 : Value} (P : Ending → World → Prop) (wB w : World) (g3 g4 g7 : Nat) (kd nid : Int) (nm2 : ByteArray) (si su at2 : Int) (pa2 : Option Addr) (pn pc : Nat) (ga : Option Addr) (gm gd : Nat) (o co : Int) (id : Int) (nm : ByteArray) (mo bu st : Int) (fi : Bool) (at' ti pa tr li : Int) (a : Option Addr) (n c : Nat) (L : List Nat) (q : Option Addr) (m d : Nat) (G : List (Int × Int)) (h : DG wB w g3 g4 g7 (#[.int .i64 kd, .int .i64 nid, .string nm2, .int .i64 si, .int .i64 su, .int .i64 at2, .slice pa2 pn pc, .slice ga gm gd, .int .i64 o, .int .i64 co]) id nm mo bu st fi at' ti pa tr li a n c L q m d G) (F2 : Nat → Int × Int) (hF2 : RdG wB ga gm gd F2) (hm : m ≤ 1000) (hk : kd = 1 ∨ kd = 2 ∨ kd = 3 ∨ kd = 4 ∨ kd = 5 ∨ kd = 6) (hk4 : kd = 4 → o ≠ 3) (hal : alG F2 65536 gm = true) (hP : ∀ e w', RV wB (rpX (⟨id, nm, mo, bu, st, fi, at', ti, pa, tr, li, L, G⟩ : Gv) kd o co F2 gm) e w' → P e w') :
    Code.wp Try.prog (tailR 8 (Try.f33.body.getD .skip)) (bodyPost Try.prog Try.f33 P) (Act.mk (List.toArray (u0 :: u1 :: u2 :: (.pointer (some ⟨g3, 0, none⟩)) :: (.pointer (some ⟨g4, 0, none⟩)) :: u5 :: u6 :: (.pointer (some ⟨g7, 0, none⟩)) :: u8 :: u9 :: u10 :: u11 :: u12 :: u13 :: u14 :: u15 :: u16 :: u17 :: u18 :: u19 :: u20 :: u21 :: u22 :: u23 :: u24 :: u25 :: u26 :: u27 :: u28 :: u29 :: u30 :: u31 :: u32 :: u33 :: u34 :: u35 :: u36 :: u37 :: u38 :: u39 :: u40 :: u41 :: u42 :: u43 :: u44 :: u45 :: u46 :: u47 :: u48 :: u49 :: u50 :: u51 :: u52 :: u53 :: u54 :: u55 :: u56 :: u57 :: u58 :: u59 :: u60 :: u61 :: u62 :: u63 :: u64 :: u65 :: u66 :: u67 :: u68 :: u69 :: u70 :: u71 :: u72 :: u73 :: u74 :: u75 :: u76 :: u77 :: u78 :: u79 :: u80 :: u81 :: u82 :: u83 :: u84 :: u85 :: u86 :: u87 :: u88 :: u89 :: u90 :: u91 :: u92 :: u93 :: u94 :: u95 :: u96 :: u97 :: u98 :: u99 :: u100 :: u101 :: u102 :: u103 :: u104 :: u105 :: u106 :: u107 :: u108 :: u109 :: u110 :: u111 :: u112 :: u113 :: u114 :: u115 :: u116 :: u117 :: u118 :: u119 :: u120 :: u121 :: u122 :: u123 :: u124 :: u125 :: u126 :: u127 :: u128 :: u129 :: u130 :: u131 :: u132 :: u133 :: u134 :: [])) []) w := by
  conv => enter [2]; whnf
  have HP : Hid _ := hP
  clear hP
  have HK4 : Hid _ := hk4
  have HAL : Hid _ := hal
  clear hk4 hal
  have e0 : w.cell? ⟨g3, 0, none⟩ = some (.int .i64 kd) := h.b3.cell 0 (by show 0 < 10; decide)
  rcases hk with rfl | rfl | rfl | rfl | rfl | rfl
  · have HX : Hid (rpX (⟨id, nm, mo, bu, st, fi, at', ti, pa, tr, li, L, G⟩ : Gv) 1 o co F2 gm = ((⟨id, nm, mo, bu, st, fi, at', ti, pa, tr, li, L, G⟩ : Gv), [], 6)) := by
      show _ = _
      unfold rpX
      rw [if_pos (by omega)]
    obtain ⟨cs4, hs4, b4⟩ := h.b4
    have i13 := Try.info_gv
    have s0 : True := trivial
    go_wp2_with (first
      | (have _t := s0; clear s0; refine wpList_ldX _ rfl _ (.tmp 7) rfl g7 _ rfl h.b7 Try.underlying44 i13 ?_; have s1 : True := trivial)
      | (have _t := s1; clear s1; refine wpList_stX _ rfl _ (.tmp 4) (.tmp 39) rfl g4 _ _ rfl rfl b4 i13 hs4 (by simp [Value.oneCell']) ?_; intro wA bA uA))
    refine bodyPost_ret (results_c1t2 rfl _ _ _ ⟨g4, 0, none⟩ _ _ _ rfl (BxS.load (t := 44) bA Try.underlying44 Try.info_gv) rfl rfl) rfl ?_
    exact HP.out _ _ (HX.out ▸ (h.fin uA 6))
  · have HX : Hid (rpX (⟨id, nm, mo, bu, st, fi, at', ti, pa, tr, li, L, G⟩ : Gv) 2 o co F2 gm = ((⟨id, nm, mo, bu, st, fi, at', ti, pa, tr, li, L, G⟩ : Gv), [], 6)) := by
      show _ = _
      unfold rpX
      rw [if_pos (by omega)]
    obtain ⟨cs4, hs4, b4⟩ := h.b4
    have i13 := Try.info_gv
    have s0 : True := trivial
    go_wp2_with (first
      | (have _t := s0; clear s0; refine wpList_ldX _ rfl _ (.tmp 7) rfl g7 _ rfl h.b7 Try.underlying44 i13 ?_; have s1 : True := trivial)
      | (have _t := s1; clear s1; refine wpList_stX _ rfl _ (.tmp 4) (.tmp 39) rfl g4 _ _ rfl rfl b4 i13 hs4 (by simp [Value.oneCell']) ?_; intro wA bA uA))
    refine bodyPost_ret (results_c1t2 rfl _ _ _ ⟨g4, 0, none⟩ _ _ _ rfl (BxS.load (t := 44) bA Try.underlying44 Try.info_gv) rfl rfl) rfl ?_
    exact HP.out _ _ (HX.out ▸ (h.fin uA 6))
  · have HX : Hid (rpX (⟨id, nm, mo, bu, st, fi, at', ti, pa, tr, li, L, G⟩ : Gv) 3 o co F2 gm = ((⟨id, nm, mo, bu, st, fi, at', ti, pa, tr, li, L, G⟩ : Gv), [], 6)) := by
      show _ = _
      unfold rpX
      rw [if_pos (by omega)]
    obtain ⟨cs4, hs4, b4⟩ := h.b4
    have i13 := Try.info_gv
    have s0 : True := trivial
    go_wp2_with (first
      | (have _t := s0; clear s0; refine wpList_ldX _ rfl _ (.tmp 7) rfl g7 _ rfl h.b7 Try.underlying44 i13 ?_; have s1 : True := trivial)
      | (have _t := s1; clear s1; refine wpList_stX _ rfl _ (.tmp 4) (.tmp 39) rfl g4 _ _ rfl rfl b4 i13 hs4 (by simp [Value.oneCell']) ?_; intro wA bA uA))
    refine bodyPost_ret (results_c1t2 rfl _ _ _ ⟨g4, 0, none⟩ _ _ _ rfl (BxS.load (t := 44) bA Try.underlying44 Try.info_gv) rfl rfl) rfl ?_
    exact HP.out _ _ (HX.out ▸ (h.fin uA 6))
  · refine wp_seq_k fun K1 hK1 => ?_
    have HK1 : Hid _ := hK1
    clear hK1
    go_wp2
    refine HK1.out _ _ ?_
    clear HK1
    exact rr_t10 P wB w g3 g4 g7 4 nid nm2 si su at2 pa2 pn pc ga gm gd o co id nm mo bu st fi at' ti pa tr li a n c L q m d G h F2 hF2 hm HAL.out (.inr (.inr ⟨rfl, HK4.out (by trivial)⟩)) HP.out
  · refine wp_seq_k fun K1 hK1 => ?_
    have HK1 : Hid _ := hK1
    clear hK1
    go_wp2
    refine HK1.out _ _ ?_
    clear HK1
    exact rr_t10 P wB w g3 g4 g7 5 nid nm2 si su at2 pa2 pn pc ga gm gd o co id nm mo bu st fi at' ti pa tr li a n c L q m d G h F2 hF2 hm HAL.out (.inl rfl) HP.out
  · refine wp_seq_k fun K1 hK1 => ?_
    have HK1 : Hid _ := hK1
    clear hK1
    go_wp2
    refine HK1.out _ _ ?_
    clear HK1
    exact rr_t10 P wB w g3 g4 g7 6 nid nm2 si su at2 pa2 pn pc ga gm gd o co id nm mo bu st fi at' ti pa tr li a n c L q m d G h F2 hF2 hm HAL.out (.inr (.inl rfl)) HP.out
end
end Go.Proofs.Ytnimehkfnpepfaa
