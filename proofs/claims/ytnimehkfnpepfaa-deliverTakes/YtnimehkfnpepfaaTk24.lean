import Derived.Test.YtnimehkfnpepfaaTk22
import Derived.Test.YtnimehkfnpepfaaTk23
import Derived.Test.YtnimehkfnpepfaaTk4
import Derived.Test.YtnimehkfnpepfaaTk7
import Derived.Test.YtnimehkfnpepfaaTk9
import Derived.Test.YtnimehkfnpepfaaTk6
import Derived.Test.YtnimehkfnpepfaaTk20
import Derived.Test.YtnimehkfnpepfaaTk10
import Derived.Test.YtnimehkfnpepfaaTk13
import Derived.Test.YtnimehkfnpepfaaTk19
import Derived.Test.YtnimehkfnpepfaaTk18
import Derived.Test.YtnimehkfnpepfaaTk8
import Derived.Test.YtnimehkfnpepfaaTk11
namespace Go.Proofs.Ytnimehkfnpepfaa
open Go.RowKit
set_option maxRecDepth 100000
set_option linter.unusedVariables false
set_option linter.unusedSimpArgs false

section
/-- what holds of a note that is for a taker -/
structure NtK (kd si2 su2 at2 : Int) (pn : Nat) (o : Int) (x : Nat) : Prop where
  kk : kd = 1 ∨ kd = 2 ∨ kd = 3 ∨ kd = 6
  si : kd = 1 ∨ kd = 3 → 0 ≤ si2 ∧ si2 ≤ 65536
  ax : at2 = (x : Int)
  pc : kd = 2 → 0 < pn ∧ x + pn ≤ 65536
  no : kd ≠ 6 → o = 0
/-- what a note brings -/
def heK (V : Tv) (kd : Int) (nm2 : ByteArray) (si2 su2 : Int) (x : Nat) (D : List Nat) : Tv :=
  if kd = 1 then (if V.kn = true then V else { V with kn := true, nm := nm2, si := si2 })
  else if kd = 2 then { V with L := laL V.L D (giF V.G) V.G.length x, G := wiL (giF V.G) (x : Int) ((x + D.length : Nat) : Int) V.G.length }
  else if kd = 3 then (if V.en = true then V else { V with en := true, la := si2, su := su2 })
  else V
def seT (id kd : Int) : List Nt := if kd = 3 then [ntSeen id] else []
def gpT (V : Tv) (kd : Int) : List Nt := if V.st = 0 ∧ kd = 3 then sgL V.id (misL V.kn V.la V.G) else []
/-- a note comes to one who takes -/
def heG (V : Tv) (kd : Int) (nm2 : ByteArray) (si2 su2 : Int) (x : Nat) (D : List Nat) : Tv × List Nt :=
  ((juV (heK { V with ti := 0, tr := 0 } kd nm2 si2 su2 x D)).1, seT V.id kd ++ (juV (heK { V with ti := 0, tr := 0 } kd nm2 si2 su2 x D)).2 ++ gpT (juV (heK { V with ti := 0, tr := 0 } kd nm2 si2 su2 x D)).1 kd)
def heV (V : Tv) (kd o : Int) (nm2 : ByteArray) (si2 su2 : Int) (x : Nat) (D : List Nat) : Tv × List Nt :=
  if V.st = 4 then (V, if kd = 3 then [ntSeen V.id, ntDone V.id 9] else [])
  else if V.st = 3 then (if kd = 3 then (V, [ntSeen V.id, ntDone V.id 0]) else if o = 5 then ({ V with ti := 0, tr := V.li }, []) else (V, []))
  else heG V kd nm2 si2 su2 x D
theorem ju_same (V : Tv) : (juV V).1.id = V.id ∧ (juV V).1.kn = V.kn ∧ (juV V).1.la = V.la ∧ (juV V).1.G = V.G ∧ (juV V).1.L = V.L ∧ (juV V).2.length ≤ 1 ∧ (juV V).1.ti = V.ti ∧ (juV V).1.tr = V.tr := by
  unfold juV
  by_cases e : V.kn = true ∧ V.en = true ∧ (V.si = V.la → haB (giF V.G) V.si V.G.length = true)
  · rw [if_pos e]
    by_cases e2 : V.si = V.la ∧ V.su = smI (V.L.take V.si.toNat)
    · rw [if_pos e2]; exact ⟨rfl, rfl, rfl, rfl, rfl, Nat.le_refl _, rfl, rfl⟩
    · rw [if_neg e2]; exact ⟨rfl, rfl, rfl, rfl, rfl, Nat.le_refl _, rfl, rfl⟩
  · rw [if_neg e]; exact ⟨rfl, rfl, rfl, rfl, rfl, Nat.zero_le _, rfl, rfl⟩
theorem heK_q {V : Tv} (h : TvQ V) {kd si2 su2 at2 : Int} {o : Int} {x : Nat} {D : List Nat} (hn : NtK kd si2 su2 at2 D.length o x) (nm2 : ByteArray) : TvQ (heK V kd nm2 si2 su2 x D) := by
  unfold heK
  by_cases h1 : kd = 1
  · rw [if_pos h1]
    by_cases h2 : V.kn = true
    · rw [if_pos h2]; exact h
    · rw [if_neg h2]; exact ⟨h.ri, h.gl, h.ge, h.n9, hn.si (.inl h1), h.la⟩
  · rw [if_neg h1]
    by_cases h2 : kd = 2
    · rw [if_pos h2]
      obtain ⟨p1, p2⟩ := hn.pc h2
      have hL : (laL V.L D (giF V.G) V.G.length x).length = max V.L.length (x + D.length) := laL_len ..
      obtain ⟨_, w2, _, w4, _⟩ := wi_rows (F := giF V.G) (x := (x : Int)) (y := ((x + D.length : Nat) : Int)) (m := V.G.length) h.ri (by omega) (by omega) (max V.L.length (x + D.length)) (fun k hk => by have := h.ge k hk; omega) (by omega)
      have hge : ∀ j, j < (wiL (giF V.G) (x : Int) ((x + D.length : Nat) : Int) V.G.length).length → (giF (wiL (giF V.G) (x : Int) ((x + D.length : Nat) : Int) V.G.length) j).2 ≤ ((max V.L.length (x + D.length) : Nat) : Int) := fun j hj => by
        rw [giF_at hj]
        exact w4 _ (List.getElem_mem hj)
      have hn9 := h.n9
      refine ⟨w2.rise, rise_len (s := 65536) w2.rise (fun j hj => by have := hge j hj; omega), fun j hj => ?_, ?_, h.si, h.la⟩
      · show _ ≤ ((laL V.L D (giF V.G) V.G.length x).length : Int)
        rw [hL]
        exact hge j hj
      · show (laL V.L D (giF V.G) V.G.length x).length ≤ 65536
        rw [hL]
        omega
    · rw [if_neg h2]
      by_cases h3 : kd = 3
      · rw [if_pos h3]
        by_cases h4 : V.en = true
        · rw [if_pos h4]; exact h
        · rw [if_neg h4]; exact ⟨h.ri, h.gl, h.ge, h.n9, h.si, hn.si (.inr h3)⟩
      · rw [if_neg h3]; exact h
theorem stc_boK (g i : Nat) (b : Bool) (w : World) (hc : ∃ u, w.cell? ⟨g, i, none⟩ = some u) (hf : w.frozen? ⟨g, i, none⟩ = false) : (Instr.storeAt 4 (.pointer (some ⟨g, i, none⟩)) (.bool b)).run Try.prog w = .ok () (w.setCell ⟨g, i, none⟩ (.bool b)) := by
  obtain ⟨u, hc⟩ := hc
  simp [go_sem, hc, hf]
theorem stc_stK (g i : Nat) (b : ByteArray) (w : World) (hc : ∃ u, w.cell? ⟨g, i, none⟩ = some u) (hf : w.frozen? ⟨g, i, none⟩ = false) : (Instr.storeAt 9 (.pointer (some ⟨g, i, none⟩)) (.string b)).run Try.prog w = .ok () (w.setCell ⟨g, i, none⟩ (.string b)) := by
  obtain ⟨u, hc⟩ := hc
  simp [go_sem, hc, hf]

set_option maxHeartbeats 32000000 in
theorem hg_t12 {u1 u2 u4 u5 u6 u7 u8 u9 u10 u11 u12 u13 u14 u15 u16 u17 u18 u19 u20 u21 u22 u23 u24 u25 u26 u27 u28 u29 u30 u31 u32 u33 u34 u35 u36 u37 u38 u39 u40 u41 u42 u43 u44 u45 u46 u47 u48 u49 u50 u51 u52 u53 u54 u55 u56 u57 u58 u59 u60 u61 u62 u63 u64 u65 u66 u67 u68 u69 u70 u71 u72 u73 u74 u75 u76 u77 u78 u79 u80 u81 u82 u83 u84 u85 u86 : Value} (P : Ending → World → Prop) (wB w : World) (gw : Nat) (V : Tv) (T : List Nt) (h : KA wB w gw V T) (ho : TvQ V) (hT1 : T.length ≤ 900) (g3 : Nat) (kd nid : Int) (nm2 : ByteArray) (si2 su2 at2 : Int) (pa2 : Option Addr) (pn pc : Nat) (ga : Option Addr) (gm gd : Nat) (o co : Int) (b3 : BxS w g3 27 #[.int .i64 kd, .int .i64 nid, .string nm2, .int .i64 si2, .int .i64 su2, .int .i64 at2, .slice pa2 pn pc, .slice ga gm gd, .int .i64 o, .int .i64 co])
    (hP : ∀ w', KA wB w' gw (juV V).1 (T ++ (juV V).2 ++ gpT (juV V).1 kd) → KpK w w' → P (.returned (.tuple #[])) w') :
    Code.wp Try.prog (tailR 12 (Try.f107.body.getD .skip)) (bodyPost Try.prog Try.f107 P) (Act.mk (List.toArray ((.pointer (some ⟨gw, 0, none⟩)) :: u1 :: u2 :: (.pointer (some ⟨g3, 0, none⟩)) :: u4 :: u5 :: u6 :: u7 :: u8 :: u9 :: u10 :: u11 :: u12 :: u13 :: u14 :: u15 :: u16 :: u17 :: u18 :: u19 :: u20 :: u21 :: u22 :: u23 :: u24 :: u25 :: u26 :: u27 :: u28 :: u29 :: u30 :: u31 :: u32 :: u33 :: u34 :: u35 :: u36 :: u37 :: u38 :: u39 :: u40 :: u41 :: u42 :: u43 :: u44 :: u45 :: u46 :: u47 :: u48 :: u49 :: u50 :: u51 :: u52 :: u53 :: u54 :: u55 :: u56 :: u57 :: u58 :: u59 :: u60 :: u61 :: u62 :: u63 :: u64 :: u65 :: u66 :: u67 :: u68 :: u69 :: u70 :: u71 :: u72 :: u73 :: u74 :: u75 :: u76 :: u77 :: u78 :: u79 :: u80 :: u81 :: u82 :: u83 :: u84 :: u85 :: u86 :: [])) []) w := by
  conv => enter [2]; whnf
  have HP : Hid _ := hP
  clear hP
  have hJ := judge_any wB w gw V T h ho (by omega)
  obtain ⟨e1, e2, e3, e4, e5, e6, _⟩ := ju_same V
  have hgl := ho.gl
  rw [← e4] at hgl
  generalize juV V = R at hJ HP e1 e2 e3 e4 e5 e6 hgl
  obtain ⟨J, T2⟩ := R
  dsimp only at hJ HP e1 e2 e3 e4 e5 e6 hgl
  clear e1 e2 e3 e4 e5 h ho
  refine wp_seq_k fun K1 hK1 => ?_
  have HK1 : Hid _ := hK1
  clear hK1
  go_wp2_with (go_at_call 123; refine hJ.mono ?_; rintro e w2 ⟨rfl, h2, kp2, gr2⟩)
  refine HK1.out _ _ ?_
  clear HK1
  clear hJ
  have HG : Hid _ := gr2
  clear gr2
  obtain ⟨a, c, q, d, na, nc, xs, hT, h2⟩ := h2
  have hxl : xs.length ≤ 1000 := by
    have : xs.length = (T ++ T2).length := by rw [← hT, List.length_map]
    rw [this, List.length_append]
    omega
  have HT : Hid _ := hT
  clear hT hT1 e6
  have x9 : w2.cell? ⟨gw, 9, none⟩ = some (.int .i64 J.st) := h2.bx.cell 9 (by show 9 < 15; decide)
  refine wp_seq_k fun K1 hK1 => ?_
  have HK1 : Hid _ := hK1
  clear hK1
  by_cases hs : J.st = 0
  · have b32 := b3.keep (HG.out hs) (by simp)
    have y0 : w2.cell? ⟨g3, 0, none⟩ = some (.int .i64 kd) := b32.cell 0 (by show 0 < 10; decide)
    have HS : Hid _ := hs
    rw [hs] at x9
    clear hs
    by_cases hk : kd = 3
    · rw [hk] at y0
      have HK3 : Hid _ := hk
      clear hk
      go_wp2
      refine HK1.out _ _ ?_
      clear HK1
      refine wp_cond_true rfl ?_
      clear x9 y0
      go_wp2_with (go_at_call 109; refine (sendGaps_any _ _ _ _ _ _ _ _ _ _ _ _ _ _ _ _ _ _ _ _ _ _ _ _ _ _ _ h2 hgl (by omega)).mono ?_; rintro e w6 ⟨rfl, ⟨na6, nc6, ys6, h6, hy6⟩, f6⟩)
      try simp only [Exit.then]
      first | go_end0 | refine bodyPost_ret (results_none rfl _ _ _) rfl ?_
      refine HP.out w6 ?_ (kp2.trans (f6.kp h2))
      have eg : gpT J kd = sgL J.id (misL J.kn J.la J.G) := if_pos ⟨HS.out, HK3.out⟩
      rw [eg]
      exact KA.of (by rw [List.map_append, HT.out, hy6]) h6
    · have hk2 : (kd == 3) = false := beq_eq_false_iff_ne.2 hk
      have HK3 : Hid _ := hk
      clear hk
      go_wp2
      refine HK1.out _ _ ?_
      clear HK1
      refine wp_cond_false rfl ?_
      refine wp_skip ?_
      try simp only [Exit.then]
      first | go_end0 | refine bodyPost_ret (results_none rfl _ _ _) rfl ?_
      refine HP.out w2 ?_ kp2
      have eg : gpT J kd = [] := if_neg (fun e => HK3.out e.2)
      rw [eg, List.append_nil]
      exact KA.of HT.out h2
  · have hs2 : (J.st == 0) = false := beq_eq_false_iff_ne.2 hs
    have HS : Hid _ := hs
    clear hs
    obtain ⟨s, hse⟩ : ∃ s, J.st = s := ⟨_, rfl⟩
    rw [hse] at x9 hs2
    clear hse
    go_wp2
    refine HK1.out _ _ ?_
    clear HK1
    refine wp_cond_false rfl ?_
    refine wp_skip ?_
    try simp only [Exit.then]
    first | go_end0 | refine bodyPost_ret (results_none rfl _ _ _) rfl ?_
    refine HP.out w2 ?_ kp2
    have eg : gpT J kd = [] := if_neg (fun e => HS.out e.1)
    rw [eg, List.append_nil]
    exact KA.of HT.out h2
end

section
set_option maxHeartbeats 16000000 in
theorem rm_t4 {u0 u2 u4 u5 u6 u7 u8 u9 u10 u11 u12 u13 u14 u15 u16 u17 u18 u19 u20 u21 u22 u23 u24 : Value} (P : Ending → World → Prop) (w0 w : World) (g1 : Nat) (id : Int) (kn : Bool) (nm : ByteArray) (si : Int) (en : Bool) (la su : Int) (q : Option Addr) (m d : Nat) (a : Option Addr) (n c : Nat) (st ti pa tr li : Int) (G : List (Int × Int)) (hGm : G.length = m) (b1 : BxS w g1 48 #[.int .i64 id, .bool kn, .string nm, .int .i64 si, .bool en, .int .i64 la, .int .i64 su, .slice q m d, .slice a n c, .int .i64 st, .int .i64 ti, .int .i64 pa, .int .i64 tr, .int .i64 li]) (hG : RdG w q m d (giF G)) (hR : Rise (giF G) m) (l : Nat) (hl : la = (l : Int)) (hl9 : l ≤ 65536) (hm : m ≤ 65536) (g0 : w0.grownBy w none) (q1 : Option Addr) (m1 d1 : Nat) (U : List (Int × Int)) (hO : OwGi w w0.heap.size q1 m1 d1 U) (hm1 : m1 ≤ 1)
    (hP : ∀ w' q' d', OwGi w' w0.heap.size q' ((U ++ uqF (giF G) 0 la m).take 20).length d' ((U ++ uqF (giF G) 0 la m).take 20) → w0.grownBy w' none → P (.returned (.slice q' ((U ++ uqF (giF G) 0 la m).take 20).length d')) w') :
    Code.wp Try.prog (tailR 4 (Try.f76.body.getD .skip)) (bodyPost Try.prog Try.f76 P) (Act.mk (List.toArray (u0 :: (.pointer (some ⟨g1, 0, none⟩)) :: u2 :: (.slice q1 m1 d1) :: u4 :: u5 :: u6 :: u7 :: u8 :: u9 :: u10 :: u11 :: u12 :: u13 :: u14 :: u15 :: u16 :: u17 :: u18 :: u19 :: u20 :: u21 :: u22 :: u23 :: u24 :: [])) []) w := by
  conv => enter [2]; whnf
  have HP : Hid _ := hP
  clear hP
  have hul : (uqF (giF G) 0 la m).length ≤ m + 1 := uqF_len
  subst hl
  have hrw := rows_un m hR l
  have x7 : w.cell? ⟨g1, 7, none⟩ = some (.slice q m d) := b1.cell 7 (by show 7 < 14; decide)
  have x5 : w.cell? ⟨g1, 5, none⟩ = some (.int .i64 (l : Int)) := b1.cell 5 (by show 5 < 14; decide)
  have HRW : Hid _ := hrw
  clear hrw
  refine wp_seq_k fun K1 hK1 => ?_
  have HK1 : Hid _ := hK1
  clear hK1
  have s0 : True := trivial
  go_wp2_with (first
    | (go_at_call 75; have _t := s0; clear s0; refine (has_any q m d l (giF G) w hG hR (by omega) (by omega)).mono ?_; rintro e w2 ⟨gb, rfl, hgb, hB, y2⟩; have s1 : True := trivial)
    | (go_at_call 74; have _t := s1; clear s1; refine (rowsIn_any gb l (fun i => cvB (giF G) i m) false w2 hB (by omega)).mono ?_; rw [HRW.out]; generalize uqF (giF G) 0 (l : Int) m = X at *; rintro e w3 ⟨q3, d3, rfl, hO3, y3⟩; have hO3' := (hO.keep y2).keep y3; have G3 := grown_trans (grown_trans g0 y2) y3; have z3 := G3.size; have hR3 := hO3.rd; have s2 : True := trivial)
    | (at_builtin; have _t := s2; clear s2; refine wpList_joinG rfl _ _ rfl q1 m1 d1 w0.heap.size U rfl hO3' (by omega) q3 X.length d3 (giF X) rfl hR3 (by omega) ?_; intro q5 d5 w5 hO5 y5; rw [tab_giF] at hO5))
  refine HK1.out _ _ ?_
  clear HK1
  have G5 := grown_far G3 y5 hO.new
  have hl5 := hO5.len
  have z5 := G5.size
  generalize hUX : U ++ X = Y at *
  generalize hmx : m1 + X.length = k at *
  have htl : (Y.take 20).length = min k 20 := by rw [List.length_take, hl5]; omega
  rw [htl] at HP
  clear htl
  by_cases hk : k ≤ 20
  · have k1 : ¬ (20 : Int) < (k : Int) := by omega
    have e1 : min k 20 = k := by omega
    have e2 : Y.take 20 = Y := List.take_of_length_le (by omega)
    rw [e1, e2] at HP
    clear e1 e2
    go_wp2
    try go_ret
    exact HP.out w5 q5 d5 hO5 G5
  · have k1 : (20 : Int) < (k : Int) := by omega
    have e1 : min k 20 = 20 := by omega
    rw [e1] at HP
    rcases hO5.cases with ⟨_, hk0, _⟩ | ⟨g5, rfl, hkd⟩
    · omega
    · have k3 : 20 ≤ d5 := by omega
      have k2 : (20 : Int) ≤ (d5 : Int) := by omega
      have hC5 := hO5.cut 20 (by omega)
      go_wp2
      try go_ret
      exact HP.out w5 (some ⟨g5, 0, none⟩) d5 hC5 G5

set_option maxHeartbeats 16000000 in
theorem rmissing_any (id : Int) (kn : Bool) (nm : ByteArray) (si : Int) (en : Bool) (la su : Int) (q : Option Addr) (m d : Nat) (a : Option Addr) (n c : Nat) (st ti pa tr li : Int) (G : List (Int × Int)) (hGm : G.length = m) (w : World) (hG : RdG w q m d (giF G)) (hR : Rise (giF G) m) (hla : 0 ≤ la ∧ la ≤ 65536) (hm : m ≤ 65536) : Calls Try.prog 76 #[.agg (tkA id kn nm si en la su (.slice q m d) (.slice a n c) st ti pa tr li)] w fun e w' => ∃ q' d', e = .returned (.slice q' (misL kn la G).length d') ∧ OwGi w' w.heap.size q' (misL kn la G).length d' (misL kn la G) ∧ w.grownBy w' none := by
  obtain ⟨i0, hi, hz0, hz1, hz2⟩ := info_parts Try.info_pr
  obtain ⟨l, hl⟩ : ∃ l : Nat, la = (l : Int) := ⟨la.toNat, by omega⟩
  have hl9 : l ≤ 65536 := by omega
  have HL : Hid _ := hl
  clear hl
  have b1 := BxS.new w 48 #[.int .i64 id, .bool kn, .string nm, .int .i64 si, .bool en, .int .i64 la, .int .i64 su, .slice q m d, .slice a n c, .int .i64 st, .int .i64 ti, .int .i64 pa, .int .i64 tr, .int .i64 li]
  have y1 := World.grownBy_alloc w (.cells #[.int .i64 id, .bool kn, .string nm, .int .i64 si, .bool en, .int .i64 la, .int .i64 su, .slice q m d, .slice a n c, .int .i64 st, .int .i64 ti, .int .i64 pa, .int .i64 tr, .int .i64 li] 48) none
  unfold tkA
  generalize hw1 : w.alloc (.cells #[.int .i64 id, .bool kn, .string nm, .int .i64 si, .bool en, .int .i64 la, .int .i64 su, .slice q m d, .slice a n c, .int .i64 st, .int .i64 ti, .int .i64 pa, .int .i64 tr, .int .i64 li] 48) = w1 at b1 y1
  have x1 : w1.cell? ⟨w.heap.size, 1, none⟩ = some (.bool kn) := b1.cell 1 (by show 1 < 14; decide)
  have hmis : misL kn la G = ((if kn = true then [] else [((0 : Int), (0 : Int))]) ++ uqF (giF G) 0 la m).take 20 := by unfold misL; rw [hGm]
  rw [hmis]
  clear hmis
  go_enter Try.func76, Try.ntmps76
  refine wp_seq_k fun K1 hK1 => ?_
  have HK1 : Hid _ := hK1
  clear hK1
  go_wp2
  refine HK1.out _ _ ?_
  clear HK1
  refine wp_seq_k fun K1 hK1 => ?_
  have HK1 : Hid _ := hK1
  clear hK1
  go_wp2
  refine HK1.out _ _ ?_
  clear HK1
  clear hw1
  cases kn with
  | true =>
    refine wp_seq_k fun K1 hK1 => ?_
    have HK1 : Hid _ := hK1
    clear hK1
    go_wp2
    try simp only [Exit.then]
    refine HK1.out _ _ ?_
    clear HK1
    refine rm_t4 _ w w1 w.heap.size id true nm si en la su q m d a n c st ti pa tr li G hGm b1 (hG.keep y1) hR l HL.out hl9 hm y1 none 0 0 [] (OwGi.nil _ _) (by omega) ?_
    intro w' q' d' h1 h2
    exact ⟨q', d', rfl, h1, h2⟩
  | false =>
    refine wp_seq_k fun K1 hK1 => ?_
    have HK1 : Hid _ := hK1
    clear hK1
    have bA := BxS.new w1 82 #[.int .i64 0, .int .i64 0]
    have yA := World.grownBy_alloc w1 (.cells #[.int .i64 0, .int .i64 0] 82) none
    generalize hwA : w1.alloc (.cells #[.int .i64 0, .int .i64 0] 82) = wA at bA yA
    have s0 : True := trivial
    go_wp2_with (at_builtin; have _t := s0; clear s0; refine wpList_apS wA rfl _ _ 24 82 i0 (.agg #[.int .i64 0, .int .i64 0]) 2 16 Try.underlying24 hi hz0 hz1 hz2 rfl (by decide) rfl (.slice none 0 0) 0 (flG (giF []) 0) rfl (OwGi.nil wA 0).own ⟨w1.heap.size, 0, none⟩ 1 1 [.int .i64 0, .int .i64 0] rfl rfl bA.newsA (by intro u hu; simp only [List.mem_cons, List.not_mem_nil, or_false] at hu; rcases hu with rfl | rfl <;> rfl) (by decide) (by unfold maxLen; omega) (by omega) ?_; intro gx cx w8 hor u8 hO8)
    try simp only [Exit.then]
    refine HK1.out _ _ ?_
    clear HK1
    rw [← giF_push [] (0, 0) 0 rfl] at hO8
    have zA := yA.size
    have z1 := y1.size
    have hgx : w.heap.size ≤ gx := by
      rcases hor with e | e
      · cases e
      · omega
    have hO9 : OwGi w8 w.heap.size (some ⟨gx, 0, none⟩) 1 cx [(0, 0)] := ⟨hO8, rfl, fun g e => by
      have e : gx = g := Option.some.inj e
      omega⟩
    have u8 : wA.grownBy w8 none := u8
    have G8 := grown_trans yA u8
    refine rm_t4 _ w w8 w.heap.size id false nm si en la su q m d a n c st ti pa tr li G hGm (b1.keep G8 (by simp)) ((hG.keep y1).keep G8) hR l HL.out hl9 hm (grown_trans y1 G8) (some ⟨gx, 0, none⟩) 1 cx [(0, 0)] hO9 (by omega) ?_
    intro w' q' d' h1 h2
    exact ⟨q', d', rfl, h1, h2⟩

set_option maxHeartbeats 16000000 in
theorem rdone_any (id : Int) (kn : Bool) (nm : ByteArray) (si : Int) (en : Bool) (la su : Int) (q : Option Addr) (m d : Nat) (a : Option Addr) (n c : Nat) (st ti pa tr li : Int) (co : Int) (w : World) : Calls Try.prog 72 #[.agg (tkA id kn nm si en la su (.slice q m d) (.slice a n c) st ti pa tr li), .int .i64 co] w fun e w' => e = .returned (.agg (xDone id co).arr) ∧ w.grownBy w' none := by
  have i10 := Try.info_nt
  have b1 := BxS.new w 48 #[.int .i64 id, .bool kn, .string nm, .int .i64 si, .bool en, .int .i64 la, .int .i64 su, .slice q m d, .slice a n c, .int .i64 st, .int .i64 ti, .int .i64 pa, .int .i64 tr, .int .i64 li]
  have y1 := World.grownBy_alloc w (.cells #[.int .i64 id, .bool kn, .string nm, .int .i64 si, .bool en, .int .i64 la, .int .i64 su, .slice q m d, .slice a n c, .int .i64 st, .int .i64 ti, .int .i64 pa, .int .i64 tr, .int .i64 li] 48) none
  unfold tkA
  have hz1 : (w.alloc (.cells #[.int .i64 id, .bool kn, .string nm, .int .i64 si, .bool en, .int .i64 la, .int .i64 su, .slice q m d, .slice a n c, .int .i64 st, .int .i64 ti, .int .i64 pa, .int .i64 tr, .int .i64 li] 48)).heap.size = w.heap.size + 1 := by simp
  generalize hw1 : w.alloc (.cells #[.int .i64 id, .bool kn, .string nm, .int .i64 si, .bool en, .int .i64 la, .int .i64 su, .slice q m d, .slice a n c, .int .i64 st, .int .i64 ti, .int .i64 pa, .int .i64 tr, .int .i64 li] 48) = w1 at b1 y1 hz1
  have b2 := BxS.new w1 27 #[.int .i64 0, .int .i64 0, .string ⟨#[]⟩, .int .i64 0, .int .i64 0, .int .i64 0, .slice none 0 0, .slice none 0 0, .int .i64 0, .int .i64 0]
  have y2 := World.grownBy_alloc w1 (.cells #[.int .i64 0, .int .i64 0, .string ⟨#[]⟩, .int .i64 0, .int .i64 0, .int .i64 0, .slice none 0 0, .slice none 0 0, .int .i64 0, .int .i64 0] 27) none
  rw [hz1] at b2
  generalize hw2 : w1.alloc (.cells #[.int .i64 0, .int .i64 0, .string ⟨#[]⟩, .int .i64 0, .int .i64 0, .int .i64 0, .slice none 0 0, .slice none 0 0, .int .i64 0, .int .i64 0] 27) = w2 at b2 y2
  have b1 := b1.keep y2 (by simp)
  have x0 : w2.cell? ⟨w.heap.size, 0, none⟩ = some (.int .i64 id) := b1.cell 0 (by show 0 < 14; decide)
  go_enter Try.func72, Try.ntmps72
  refine wp_seq_k fun K1 hK1 => ?_
  have HK1 : Hid _ := hK1
  clear hK1
  go_wp2
  refine HK1.out _ _ ?_
  clear HK1
  clear hw1 hw2
  have s0 : True := trivial
  go_wp2_with (have _t := s0; clear s0; refine wpList_stX _ rfl _ (.tmp 4) (.tmp 8) rfl (w.heap.size + 1) _ _ rfl rfl b2 i10 rfl (by simp [Value.oneCell']) ?_; intro w3 b3 u3)
  refine bodyPost_ret (results_cellN rfl _ _ _ ⟨w.heap.size + 1, 0, none⟩ _ rfl (BxS.load (t := 27) b3 Try.underlying27 Try.info_nt)) rfl ?_
  exact ⟨rfl, grown_far (grown_trans y1 y2) u3 (fun z e => by have e := Option.some.inj e; omega)⟩
end

section
/-- an answer of the document's side -/
def RDk (w : World) (V : Tv) (T : List Nt) (E : Nat) (e : Ending) (w' : World) : Prop :=
  ∃ a c q d na nc xs, e = .returned (.tuple #[.agg (tkA V.id V.kn V.nm V.si V.en V.la V.su (.slice q V.G.length d) (.slice a V.L.length c) V.st V.ti V.pa V.tr V.li), .slice na T.length nc, .int .i64 (E : Nat)]) ∧ xs.map Nx.dt = T ∧ Rd w' a V.L.length c V.L ∧ RdG w' q V.G.length d (giF V.G) ∧ OwN w' w.heap.size na T.length nc xs ∧ w.grownBy w' none
/-- the document's taker at work -/
structure DTk (wB w : World) (g2 g5 : Nat) (V : Tv) (a : Option Addr) (c : Nat) (q : Option Addr) (d : Nat) : Prop where
  b5 : BxS w g5 48 #[.int .i64 V.id, .bool V.kn, .string V.nm, .int .i64 V.si, .bool V.en, .int .i64 V.la, .int .i64 V.su, .slice q V.G.length d, .slice a V.L.length c, .int .i64 V.st, .int .i64 V.ti, .int .i64 V.pa, .int .i64 V.tr, .int .i64 V.li]
  b2 : BxS w g2 48 #[.int .i64 0, .bool false, .string ⟨#[]⟩, .int .i64 0, .bool false, .int .i64 0, .int .i64 0, .slice none 0 0, .slice none 0 0, .int .i64 0, .int .i64 0, .int .i64 0, .int .i64 0, .int .i64 0]
  A : Ans w wB.heap.size a V.L.length c V.L
  O : OwGi w wB.heap.size q V.G.length d V.G
  l2 : wB.heap.size ≤ g2
  l5 : wB.heap.size ≤ g5
  ne : g2 ≠ g5
  g : wB.grownBy w none
theorem DTk.set {wB w w' : World} {g2 g5 : Nat} {V : Tv} {a : Option Addr} {c : Nat} {q : Option Addr} {d : Nat} (h : DTk wB w g2 g5 V a c q d) {st2 ti2 tr2 : Int} (u : w.grownBy w' (some g5)) (b : BxS w' g5 48 #[.int .i64 V.id, .bool V.kn, .string V.nm, .int .i64 V.si, .bool V.en, .int .i64 V.la, .int .i64 V.su, .slice q V.G.length d, .slice a V.L.length c, .int .i64 st2, .int .i64 ti2, .int .i64 V.pa, .int .i64 tr2, .int .i64 V.li]) : DTk wB w' g2 g5 { V with st := st2, ti := ti2, tr := tr2 } a c q d :=
  ⟨b, h.b2.keep u (fun e => h.ne (Option.some.inj e)), h.A.kRR u (fun z e e2 => by have e := Option.some.inj e; subst e; exact own_ty h.A.own h.b5 (by decide) e2), h.O.bx h.b5 (by decide) u, h.l2, h.l5, h.ne, grown_far h.g u (fun z e => by have e := Option.some.inj e; have := h.l5; omega)⟩
theorem DTk.keepN {wB w w' : World} {g2 g5 : Nat} {V : Tv} {a : Option Addr} {c : Nat} {q : Option Addr} {d : Nat} (h : DTk wB w g2 g5 V a c q d) (u : w.grownBy w' none) : DTk wB w' g2 g5 V a c q d :=
  ⟨h.b5.keep u (by simp), h.b2.keep u (by simp), h.A.keep u, h.O.keep u, h.l2, h.l5, h.ne, grown_trans h.g u⟩
theorem DTk.fin {wB w w' : World} {g2 g5 : Nat} {V : Tv} {a : Option Addr} {c : Nat} {q : Option Addr} {d : Nat} (h : DTk wB w g2 g5 V a c q d) (u : w.grownBy w' (some g2)) {na : Option Addr} {nc : Nat} {xs : List Nx} {T : List Nt} (hT : xs.map Nx.dt = T) (hN : OwN w wB.heap.size na T.length nc xs) : RDk wB V T 0 (.returned (.tuple #[.agg #[.int .i64 V.id, .bool V.kn, .string V.nm, .int .i64 V.si, .bool V.en, .int .i64 V.la, .int .i64 V.su, .slice q V.G.length d, .slice a V.L.length c, .int .i64 V.st, .int .i64 V.ti, .int .i64 V.pa, .int .i64 V.tr, .int .i64 V.li], .slice na T.length nc, .int .i64 0])) w' :=
  ⟨a, c, q, d, na, nc, xs, rfl, hT, (h.A.kRR u (fun z e e2 => by have e := Option.some.inj e; subst e; exact own_ty h.A.own h.b2 (by decide) e2)).rd, (h.O.bx h.b2 (by decide) u).rd, hN.bx h.b2 (by decide) (by decide) (by decide) u, grown_far h.g u (fun z e => by have e := Option.some.inj e; have := h.l2; omega)⟩
theorem DTk.fin2 {wB w w' : World} {g2 g5 : Nat} {V : Tv} {a : Option Addr} {c : Nat} {q : Option Addr} {d : Nat} (h : DTk wB w g2 g5 V a c q d) {w1 : World} (u : w.grownBy w1 (some g2)) (y : w1.grownBy w' none) {na : Option Addr} {nc : Nat} {xs : List Nx} {T : List Nt} (hT : xs.map Nx.dt = T) (hN : OwN w' wB.heap.size na T.length nc xs) : RDk wB V T 0 (.returned (.tuple #[.agg #[.int .i64 V.id, .bool V.kn, .string V.nm, .int .i64 V.si, .bool V.en, .int .i64 V.la, .int .i64 V.su, .slice q V.G.length d, .slice a V.L.length c, .int .i64 V.st, .int .i64 V.ti, .int .i64 V.pa, .int .i64 V.tr, .int .i64 V.li], .slice na T.length nc, .int .i64 0])) w' :=
  ⟨a, c, q, d, na, nc, xs, rfl, hT, ((h.A.kRR u (fun z e e2 => by have e := Option.some.inj e; subst e; exact own_ty h.A.own h.b2 (by decide) e2)).keep y).rd, ((h.O.bx h.b2 (by decide) u).keep y).rd, hN, grown_trans (grown_far h.g u (fun z e => by have e := Option.some.inj e; have := h.l2; omega)) y⟩
end
end Go.Proofs.Ytnimehkfnpepfaa
