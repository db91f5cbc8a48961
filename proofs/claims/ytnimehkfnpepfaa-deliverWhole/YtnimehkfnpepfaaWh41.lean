import Derived.Test.YtnimehkfnpepfaaWh38
import Derived.Test.YtnimehkfnpepfaaWh39
import Derived.Test.YtnimehkfnpepfaaWh37
import Derived.Test.YtnimehkfnpepfaaWh40
namespace Go.Proofs.Ytnimehkfnpepfaa
open Go.RowKit
set_option maxRecDepth 100000
set_option linter.unusedVariables false
set_option linter.unusedSimpArgs false

section
/-- what holds of a note that is for a taker -/
structure NtK (kd si2 su2 at2 : Int) (pn : Nat) (o : Int) (x : Nat) : Prop where
  kk : kd = 1 ∨ kd = 2 ∨ kd = 3 ∨ kd = 6
  si : kd = 1 ∨ kd = 3 → 0 ≤ si2 ∧ si2 ≤ 65536
  ax : at2 = (x : Int)
  pc : kd = 2 → 0 < pn ∧ x + pn ≤ 65536
  no : kd ≠ 6 → o = 0
/-- what a note brings -/
def heK (V : Tv) (kd : Int) (nm2 : ByteArray) (si2 su2 : Int) (x : Nat) (D : List Nat) : Tv :=
  if kd = 1 then (if V.kn = true then V else { V with kn := true, nm := nm2, si := si2 })
  else if kd = 2 then { V with L := laL V.L D (giF V.G) V.G.length x, G := wiL (giF V.G) (x : Int) ((x + D.length : Nat) : Int) V.G.length }
  else if kd = 3 then (if V.en = true then V else { V with en := true, la := si2, su := su2 })
  else V
def seT (id kd : Int) : List Nt := if kd = 3 then [ntSeen id] else []
def gpT (V : Tv) (kd : Int) : List Nt := if V.st = 0 ∧ kd = 3 then sgL V.id (misL V.kn V.la V.G) else []
/-- a note comes to one who takes -/
def heG (V : Tv) (kd : Int) (nm2 : ByteArray) (si2 su2 : Int) (x : Nat) (D : List Nat) : Tv × List Nt :=
  ((juV (heK { V with ti := 0, tr := 0 } kd nm2 si2 su2 x D)).1, seT V.id kd ++ (juV (heK { V with ti := 0, tr := 0 } kd nm2 si2 su2 x D)).2 ++ gpT (juV (heK { V with ti := 0, tr := 0 } kd nm2 si2 su2 x D)).1 kd)
def heV (V : Tv) (kd o : Int) (nm2 : ByteArray) (si2 su2 : Int) (x : Nat) (D : List Nat) : Tv × List Nt :=
  if V.st = 4 then (V, if kd = 3 then [ntSeen V.id, ntDone V.id 9] else [])
  else if V.st = 3 then (if kd = 3 then (V, [ntSeen V.id, ntDone V.id 0]) else if o = 5 then ({ V with ti := 0, tr := V.li }, []) else (V, []))
  else heG V kd nm2 si2 su2 x D
theorem ju_same (V : Tv) : (juV V).1.id = V.id ∧ (juV V).1.kn = V.kn ∧ (juV V).1.la = V.la ∧ (juV V).1.G = V.G ∧ (juV V).1.L = V.L ∧ (juV V).2.length ≤ 1 ∧ (juV V).1.ti = V.ti ∧ (juV V).1.tr = V.tr := by
  unfold juV
  by_cases e : V.kn = true ∧ V.en = true ∧ (V.si = V.la → haB (giF V.G) V.si V.G.length = true)
  · rw [if_pos e]
    by_cases e2 : V.si = V.la ∧ V.su = smI (V.L.take V.si.toNat)
    · rw [if_pos e2]; exact ⟨rfl, rfl, rfl, rfl, rfl, Nat.le_refl _, rfl, rfl⟩
    · rw [if_neg e2]; exact ⟨rfl, rfl, rfl, rfl, rfl, Nat.le_refl _, rfl, rfl⟩
  · rw [if_neg e]; exact ⟨rfl, rfl, rfl, rfl, rfl, Nat.zero_le _, rfl, rfl⟩
theorem heK_q {V : Tv} (h : TvQ V) {kd si2 su2 at2 : Int} {o : Int} {x : Nat} {D : List Nat} (hn : NtK kd si2 su2 at2 D.length o x) (nm2 : ByteArray) : TvQ (heK V kd nm2 si2 su2 x D) := by
  unfold heK
  by_cases h1 : kd = 1
  · rw [if_pos h1]
    by_cases h2 : V.kn = true
    · rw [if_pos h2]; exact h
    · rw [if_neg h2]; exact ⟨h.ri, h.gl, h.ge, h.n9, hn.si (.inl h1), h.la⟩
  · rw [if_neg h1]
    by_cases h2 : kd = 2
    · rw [if_pos h2]
      obtain ⟨p1, p2⟩ := hn.pc h2
      have hL : (laL V.L D (giF V.G) V.G.length x).length = max V.L.length (x + D.length) := laL_len ..
      obtain ⟨_, w2, _, w4, _⟩ := wi_rows (F := giF V.G) (x := (x : Int)) (y := ((x + D.length : Nat) : Int)) (m := V.G.length) h.ri (by omega) (by omega) (max V.L.length (x + D.length)) (fun k hk => by have := h.ge k hk; omega) (by omega)
      have hge : ∀ j, j < (wiL (giF V.G) (x : Int) ((x + D.length : Nat) : Int) V.G.length).length → (giF (wiL (giF V.G) (x : Int) ((x + D.length : Nat) : Int) V.G.length) j).2 ≤ ((max V.L.length (x + D.length) : Nat) : Int) := fun j hj => by
        rw [giF_at hj]
        exact w4 _ (List.getElem_mem hj)
      have hn9 := h.n9
      refine ⟨w2.rise, rise_len (s := 65536) w2.rise (fun j hj => by have := hge j hj; omega), fun j hj => ?_, ?_, h.si, h.la⟩
      · show _ ≤ ((laL V.L D (giF V.G) V.G.length x).length : Int)
        rw [hL]
        exact hge j hj
      · show (laL V.L D (giF V.G) V.G.length x).length ≤ 65536
        rw [hL]
        omega
    · rw [if_neg h2]
      by_cases h3 : kd = 3
      · rw [if_pos h3]
        by_cases h4 : V.en = true
        · rw [if_pos h4]; exact h
        · rw [if_neg h4]; exact ⟨h.ri, h.gl, h.ge, h.n9, h.si, hn.si (.inr h3)⟩
      · rw [if_neg h3]; exact h
theorem stc_boK (g i : Nat) (b : Bool) (w : World) (hc : ∃ u, w.cell? ⟨g, i, none⟩ = some u) (hf : w.frozen? ⟨g, i, none⟩ = false) : (Instr.storeAt 4 (.pointer (some ⟨g, i, none⟩)) (.bool b)).run Try.prog w = .ok () (w.setCell ⟨g, i, none⟩ (.bool b)) := by
  obtain ⟨u, hc⟩ := hc
  simp [go_sem, hc, hf]
theorem stc_stK (g i : Nat) (b : ByteArray) (w : World) (hc : ∃ u, w.cell? ⟨g, i, none⟩ = some u) (hf : w.frozen? ⟨g, i, none⟩ = false) : (Instr.storeAt 9 (.pointer (some ⟨g, i, none⟩)) (.string b)).run Try.prog w = .ok () (w.setCell ⟨g, i, none⟩ (.string b)) := by
  obtain ⟨u, hc⟩ := hc
  simp [go_sem, hc, hf]

set_option maxHeartbeats 32000000 in
theorem hg_t12 {u1 u2 u4 u5 u6 u7 u8 u9 u10 u11 u12 u13 u14 u15 u16 u17 u18 u19 u20 u21 u22 u23 u24 u25 u26 u27 u28 u29 u30 u31 u32 u33 u34 u35 u36 u37 u38 u39 u40 u41 u42 u43 u44 u45 u46 u47 u48 u49 u50 u51 u52 u53 u54 u55 u56 u57 u58 u59 u60 u61 u62 u63 u64 u65 u66 u67 u68 u69 u70 u71 u72 u73 u74 u75 u76 u77 u78 u79 u80 u81 u82 u83 u84 u85 u86 : Value} (P : Ending → World → Prop) (wB w : World) (gw : Nat) (V : Tv) (T : List Nt) (h : KA wB w gw V T) (ho : TvQ V) (hT1 : T.length ≤ 900) (g3 : Nat) (kd nid : Int) (nm2 : ByteArray) (si2 su2 at2 : Int) (pa2 : Option Addr) (pn pc : Nat) (ga : Option Addr) (gm gd : Nat) (o co : Int) (b3 : BxS w g3 27 #[.int .i64 kd, .int .i64 nid, .string nm2, .int .i64 si2, .int .i64 su2, .int .i64 at2, .slice pa2 pn pc, .slice ga gm gd, .int .i64 o, .int .i64 co])
    (hP : ∀ w', KA wB w' gw (juV V).1 (T ++ (juV V).2 ++ gpT (juV V).1 kd) → KpK w w' → P (.returned (.tuple #[])) w') :
    Code.wp Try.prog (tailR 12 (Try.f107.body.getD .skip)) (bodyPost Try.prog Try.f107 P) (Act.mk (List.toArray ((.pointer (some ⟨gw, 0, none⟩)) :: u1 :: u2 :: (.pointer (some ⟨g3, 0, none⟩)) :: u4 :: u5 :: u6 :: u7 :: u8 :: u9 :: u10 :: u11 :: u12 :: u13 :: u14 :: u15 :: u16 :: u17 :: u18 :: u19 :: u20 :: u21 :: u22 :: u23 :: u24 :: u25 :: u26 :: u27 :: u28 :: u29 :: u30 :: u31 :: u32 :: u33 :: u34 :: u35 :: u36 :: u37 :: u38 :: u39 :: u40 :: u41 :: u42 :: u43 :: u44 :: u45 :: u46 :: u47 :: u48 :: u49 :: u50 :: u51 :: u52 :: u53 :: u54 :: u55 :: u56 :: u57 :: u58 :: u59 :: u60 :: u61 :: u62 :: u63 :: u64 :: u65 :: u66 :: u67 :: u68 :: u69 :: u70 :: u71 :: u72 :: u73 :: u74 :: u75 :: u76 :: u77 :: u78 :: u79 :: u80 :: u81 :: u82 :: u83 :: u84 :: u85 :: u86 :: [])) []) w := by
  conv => enter [2]; whnf
  have HP : Hid _ := hP
  clear hP
  have hJ := judge_any wB w gw V T h ho (by omega)
  obtain ⟨e1, e2, e3, e4, e5, e6, _⟩ := ju_same V
  have hgl := ho.gl
  rw [← e4] at hgl
  generalize juV V = R at hJ HP e1 e2 e3 e4 e5 e6 hgl
  obtain ⟨J, T2⟩ := R
  dsimp only at hJ HP e1 e2 e3 e4 e5 e6 hgl
  clear e1 e2 e3 e4 e5 h ho
  refine wp_seq_k fun K1 hK1 => ?_
  have HK1 : Hid _ := hK1
  clear hK1
  go_wp2_with (go_at_call 123; refine hJ.mono ?_; rintro e w2 ⟨rfl, h2, kp2, gr2⟩)
  refine HK1.out _ _ ?_
  clear HK1
  clear hJ
  have HG : Hid _ := gr2
  clear gr2
  obtain ⟨a, c, q, d, na, nc, xs, hT, h2⟩ := h2
  have hxl : xs.length ≤ 1000 := by
    have : xs.length = (T ++ T2).length := by rw [← hT, List.length_map]
    rw [this, List.length_append]
    omega
  have HT : Hid _ := hT
  clear hT hT1 e6
  have x9 : w2.cell? ⟨gw, 9, none⟩ = some (.int .i64 J.st) := h2.bx.cell 9 (by show 9 < 15; decide)
  refine wp_seq_k fun K1 hK1 => ?_
  have HK1 : Hid _ := hK1
  clear hK1
  by_cases hs : J.st = 0
  · have b32 := b3.keep (HG.out hs) (by simp)
    have y0 : w2.cell? ⟨g3, 0, none⟩ = some (.int .i64 kd) := b32.cell 0 (by show 0 < 10; decide)
    have HS : Hid _ := hs
    rw [hs] at x9
    clear hs
    by_cases hk : kd = 3
    · rw [hk] at y0
      have HK3 : Hid _ := hk
      clear hk
      go_wp2
      refine HK1.out _ _ ?_
      clear HK1
      refine wp_cond_true rfl ?_
      clear x9 y0
      go_wp2_with (go_at_call 109; refine (sendGaps_any _ _ _ _ _ _ _ _ _ _ _ _ _ _ _ _ _ _ _ _ _ _ _ _ _ _ _ h2 hgl (by omega)).mono ?_; rintro e w6 ⟨rfl, ⟨na6, nc6, ys6, h6, hy6⟩, f6⟩)
      try simp only [Exit.then]
      first | go_end0 | refine bodyPost_ret (results_none rfl _ _ _) rfl ?_
      refine HP.out w6 ?_ (kp2.trans (f6.kp h2))
      have eg : gpT J kd = sgL J.id (misL J.kn J.la J.G) := if_pos ⟨HS.out, HK3.out⟩
      rw [eg]
      exact KA.of (by rw [List.map_append, HT.out, hy6]) h6
    · have hk2 : (kd == 3) = false := beq_eq_false_iff_ne.2 hk
      have HK3 : Hid _ := hk
      clear hk
      go_wp2
      refine HK1.out _ _ ?_
      clear HK1
      refine wp_cond_false rfl ?_
      refine wp_skip ?_
      try simp only [Exit.then]
      first | go_end0 | refine bodyPost_ret (results_none rfl _ _ _) rfl ?_
      refine HP.out w2 ?_ kp2
      have eg : gpT J kd = [] := if_neg (fun e => HK3.out e.2)
      rw [eg, List.append_nil]
      exact KA.of HT.out h2
  · have hs2 : (J.st == 0) = false := beq_eq_false_iff_ne.2 hs
    have HS : Hid _ := hs
    clear hs
    obtain ⟨s, hse⟩ : ∃ s, J.st = s := ⟨_, rfl⟩
    rw [hse] at x9 hs2
    clear hse
    go_wp2
    refine HK1.out _ _ ?_
    clear HK1
    refine wp_cond_false rfl ?_
    refine wp_skip ?_
    try simp only [Exit.then]
    first | go_end0 | refine bodyPost_ret (results_none rfl _ _ _) rfl ?_
    refine HP.out w2 ?_ kp2
    have eg : gpT J kd = [] := if_neg (fun e => HS.out e.1)
    rw [eg, List.append_nil]
    exact KA.of HT.out h2
end

section
set_option maxHeartbeats 32000000 in
/-- a note comes to one who takes -/
theorem hearGoing_any (wB w : World) (gw : Nat) (V : Tv) (h : KA wB w gw V []) (ho : TvQ V) (hs : V.st = 0) (kd nid : Int) (nm2 : ByteArray) (si2 su2 at2 : Int) (pa2 : Option Addr) (pn pc : Nat) (ga : Option Addr) (gm gd : Nat) (o co : Int) (x : Nat) (D : List Nat) (hD : Rd wB pa2 pn pc D) (hn : NtK kd si2 su2 at2 pn o x) : Calls Try.prog 107 #[.pointer (some ⟨gw, 0, none⟩), .agg (ntA kd nid nm2 si2 su2 at2 (.slice pa2 pn pc) (.slice ga gm gd) o co)] w fun e w' => e = .returned (.tuple #[]) ∧ KA wB w' gw (heG V kd nm2 si2 su2 x D).1 (heG V kd nm2 si2 su2 x D).2 ∧ KpK w w' := by
  have hDl : D.length = pn := hD.len
  have hn2 : NtK kd si2 su2 at2 D.length o x := by rw [hDl]; exact hn
  have hq1 : TvQ { V with ti := 0, tr := 0 } := ⟨ho.ri, ho.gl, ho.ge, ho.n9, ho.si, ho.la⟩
  have hq := heK_q hq1 hn2 nm2
  have hri := ho.ri
  have hgl := ho.gl
  have hn9 := ho.n9
  have hax := hn.ax
  have hkk := hn.kk
  have hpc := hn.pc
  obtain ⟨a, c, q, d, na, nc, xs, hT, h⟩ := h
  have hxs : xs = [] := List.map_eq_nil_iff.1 hT
  subst hxs
  obtain ⟨id, kn, nm, si, en, la, su, st, ti, pa, tr, li, L, G⟩ := V
  dsimp only at h hs hri hgl hn9 hq
  subst hs hax
  have HRI : Hid _ := hri
  have HGL : Hid _ := hgl
  have HN9 : Hid _ := hn9
  have HPC : Hid _ := hpc
  have HDL : Hid _ := hDl
  clear hT hn hn2 hq1 ho hri hgl hn9 hpc hDl
  have b3 := BxS.new w 27 #[.int .i64 kd, .int .i64 nid, .string nm2, .int .i64 si2, .int .i64 su2, .int .i64 (x : Int), .slice pa2 pn pc, .slice ga gm gd, .int .i64 o, .int .i64 co]
  have g3' := World.grownBy_alloc w (.cells #[.int .i64 kd, .int .i64 nid, .string nm2, .int .i64 si2, .int .i64 su2, .int .i64 (x : Int), .slice pa2 pn pc, .slice ga gm gd, .int .i64 o, .int .i64 co] 27) none
  unfold ntA
  generalize hw1 : w.alloc (.cells #[.int .i64 kd, .int .i64 nid, .string nm2, .int .i64 si2, .int .i64 su2, .int .i64 (x : Int), .slice pa2 pn pc, .slice ga gm gd, .int .i64 o, .int .i64 co] 27) = w1 at b3 g3'
  have hr3 : (Value.slice na 0 nc).ownBlock ≠ some w.heap.size := fun e => by have h1 : w.heap.size < w.heap.size := own_ltN h.N.own e; omega
  go_enter Try.func107, Try.ntmps107
  refine wp_seq_k fun K1 hK1 => ?_
  have HK1 : Hid _ := hK1
  clear hK1
  go_wp2
  refine HK1.out _ _ ?_
  clear HK1
  clear hw1
  obtain ⟨g3, hg3⟩ : ∃ g3, w.heap.size = g3 := ⟨_, rfl⟩
  rw [hg3] at b3 hr3 ⊢
  clear hg3
  have h1 := h.keepN g3'
  refine wp_seq_k fun K1 hK1 => ?_
  have HK1 : Hid _ := hK1
  clear hK1
  have s0 : True := trivial
  go_wp2_with (first
    | (have _t := s0; clear s0; refine wpList_stC _ rfl _ _ _ rfl gw 10 112 _ #[.int .i64 id, .bool kn, .string nm, .int .i64 si, .bool en, .int .i64 la, .int .i64 su, .slice q G.length d, .slice a L.length c, .int .i64 0, .int .i64 0, .int .i64 pa, .int .i64 tr, .int .i64 li, .slice na 0 nc] (.int .i64 0) rfl rfl h1.bx (stc_int _ _ _) (by show 10 < 15; decide) rfl ?_; intro w2 b2 u2; have h2 := h1.set u2 b2; have s1 : True := trivial)
    | (have _t := s1; clear s1; refine wpList_stC _ rfl _ _ _ rfl gw 12 112 _ #[.int .i64 id, .bool kn, .string nm, .int .i64 si, .bool en, .int .i64 la, .int .i64 su, .slice q G.length d, .slice a L.length c, .int .i64 0, .int .i64 0, .int .i64 pa, .int .i64 0, .int .i64 li, .slice na 0 nc] (.int .i64 0) rfl rfl h2.bx (stc_int _ _ _) (by show 12 < 15; decide) rfl ?_; intro w3 b3w u3))
  refine HK1.out _ _ ?_
  clear HK1
  have h3 := h2.set u3 b3w
  have k3 : KpK w w3 := ((KpK.none g3').trans (KpK.bx h1.bx (by decide) u2)).trans (KpK.bx h2.bx (by decide) u3)
  have b33 := (b3.keep u2 (fun e => BxS.apart b3 h1.bx (by decide) (Option.some.inj e))).keep u3 (fun e => BxS.apart (b3.keep u2 (fun e => BxS.apart b3 h1.bx (by decide) (Option.some.inj e))) h2.bx (by decide) (Option.some.inj e))
  clear u2 b2 u3 b3w h1 h2 b3 g3' h
  rcases hkk with rfl | rfl | rfl | rfl
  · have y0 : w3.cell? ⟨g3, 0, none⟩ = some (.int .i64 1) := b33.cell 0 (by show 0 < 10; decide)
    refine wp_seq_k fun K1 hK1 => ?_
    have HK1 : Hid _ := hK1
    clear hK1
    refine wp_seq_k fun K2 hK2 => ?_
    have HK2 : Hid _ := hK2
    clear hK2
    go_wp2
    refine HK2.out _ _ ?_
    clear HK2
    refine wp_block ?_
    have x1 : w3.cell? ⟨gw, 1, none⟩ = some (.bool kn) := h3.bx.cell 1 (by show 1 < 15; decide)
    cases kn with
    | true =>
      go_wp2
      try simp only [Exit.then, Exit.inBlock]
      refine HK1.out _ _ ?_
      clear HK1
      have eK : heK (⟨id, true, nm, si, en, la, su, 0, 0, pa, 0, li, L, G⟩ : Tv) 1 nm2 si2 su2 x D = (⟨id, true, nm, si, en, la, su, 0, 0, pa, 0, li, L, G⟩ : Tv) := by unfold heK; rw [if_pos rfl, if_pos rfl]
      rw [eK] at hq
      refine hg_t12 _ wB w3 gw (⟨id, true, nm, si, en, la, su, 0, 0, pa, 0, li, L, G⟩ : Tv) [] (KA.of rfl h3) hq (by show _ ≤ 900; simp) g3 1 nid nm2 si2 su2 (x : Int) pa2 pn pc ga gm gd o co b33 ?_
      intro w' h9 k9
      refine ⟨rfl, ?_, (k3).trans k9⟩
      show KA wB w' gw (juV (heK (⟨id, true, nm, si, en, la, su, 0, 0, pa, 0, li, L, G⟩ : Tv) 1 nm2 si2 su2 x D)).1 (seT id 1 ++ (juV (heK (⟨id, true, nm, si, en, la, su, 0, 0, pa, 0, li, L, G⟩ : Tv) 1 nm2 si2 su2 x D)).2 ++ gpT (juV (heK (⟨id, true, nm, si, en, la, su, 0, 0, pa, 0, li, L, G⟩ : Tv) 1 nm2 si2 su2 x D)).1 1)
      rw [eK]
      exact h9
    | false =>
      refine wp_seq_k fun K2 hK2 => ?_
      have HK2 : Hid _ := hK2
      clear hK2
      go_wp2
      refine HK2.out _ _ ?_
      clear HK2
      refine wp_cond_true rfl ?_
      refine wp_seq_k fun K2 hK2 => ?_
      have HK2 : Hid _ := hK2
      clear hK2
      go_wp2
      refine HK2.out _ _ ?_
      clear HK2
      refine wp_cond_true rfl ?_
      clear x1 y0
      have Gd := grown_drew w3 none
      have hd := h3.keepN Gd
      have S0 : BxS w3.drew g3 27 #[.int .i64 1, .int .i64 nid, .string nm2, .int .i64 si2, .int .i64 su2, .int .i64 (x : Int), .slice pa2 pn pc, .slice ga gm gd, .int .i64 o, .int .i64 co] := b33.keep Gd (by simp)
      refine wp_regionL (fun wz => BxS wz g3 27 #[.int .i64 1, .int .i64 nid, .string nm2, .int .i64 si2, .int .i64 su2, .int .i64 (x : Int), .slice pa2 pn pc, .slice ga gm gd, .int .i64 o, .int .i64 co]) [] #[false, false, false, false, false, false, false, false, false, false, false, false, false, false, false, false, false, false, false] rfl (by kernel_rfl) ?_
      generalize w3.drew = wd at *
      refine wpAnyZ_take [] 0 (.pointer (some ⟨gw, 0, none⟩)) rfl (by kernel_rfl) (fun _ _ _ h => h) S0 rfl (by intro wz hz; go_simp) ?_
      try simp only [zc1, zc2, zc3, Act.put, zc4, zc5, zc6]
      refine wpAnyZ_take [] 1 (.pointer (some ⟨gw, 0, none⟩)) rfl (by kernel_rfl) (fun _ _ _ h => h) S0 rfl (by intro wz hz; go_simp) ?_
      try simp only [zc1, zc2, zc3, Act.put, zc4, zc5, zc6]
      refine wpAnyZ_take [] 2 (.pointer (some ⟨gw, 0, none⟩)) rfl (by kernel_rfl) (fun _ _ _ h => h) S0 rfl (by intro wz hz; go_simp) ?_
      try simp only [zc1, zc2, zc3, Act.put, zc4, zc5, zc6]
      refine wpAnyZ_take [] 3 (.pointer (some ⟨g3, 2, none⟩)) rfl (by kernel_rfl) (fun _ _ _ h => h) S0 rfl (by intro wz hz; go_simp) ?_
      try simp only [zc1, zc2, zc3, Act.put, zc4, zc5, zc6]
      refine wpAnyZ_take [] 4 (.string nm2) rfl (by kernel_rfl) (fun _ _ _ h => h) S0 rfl (by intro wz hz; have z : wz.cell? ⟨g3, 2, none⟩ = some (.string nm2) := hz.cell 2 (by show 2 < 10; decide); go_simp) ?_
      try simp only [zc1, zc2, zc3, Act.put, zc4, zc5, zc6]
      refine wpAnyZ_take [] 5 (.pointer (some ⟨g3, 3, none⟩)) rfl (by kernel_rfl) (fun _ _ _ h => h) S0 rfl (by intro wz hz; go_simp) ?_
      try simp only [zc1, zc2, zc3, Act.put, zc4, zc5, zc6]
      refine wpAnyZ_take [] 6 (.int .i64 si2) rfl (by kernel_rfl) (fun _ _ _ h => h) S0 rfl (by intro wz hz; have z : wz.cell? ⟨g3, 3, none⟩ = some (.int .i64 si2) := hz.cell 3 (by show 3 < 10; decide); go_simp) ?_
      try simp only [zc1, zc2, zc3, Act.put, zc4, zc5, zc6]
      refine wpAnyZ_take [] 7 (.pointer (some ⟨gw, 0, none⟩)) rfl (by kernel_rfl) (fun _ _ _ h => h) S0 rfl (by intro wz hz; go_simp) ?_
      try simp only [zc1, zc2, zc3, Act.put, zc4, zc5, zc6]
      refine wpAnyZ_take [] 8 (.pointer (some ⟨gw, 0, none⟩)) rfl (by kernel_rfl) (fun _ _ _ h => h) S0 rfl (by intro wz hz; go_simp) ?_
      try simp only [zc1, zc2, zc3, Act.put, zc4, zc5, zc6]
      refine wpAnyZ_take [] 9 (.pointer (some ⟨gw, 1, none⟩)) rfl (by kernel_rfl) (fun _ _ _ h => h) S0 rfl (by intro wz hz; go_simp) ?_
      try simp only [zc1, zc2, zc3, Act.put, zc4, zc5, zc6]
      refine wpAnyZ_oneB 10 rfl (by kernel_rfl) (fun KK hKK => ?_)
      refine step_stCd _ rfl _ _ _ rfl gw 1 112 _ #[.int .i64 id, .bool true, .string nm, .int .i64 si, .bool en, .int .i64 la, .int .i64 su, .slice q G.length d, .slice a L.length c, .int .i64 0, .int .i64 0, .int .i64 pa, .int .i64 0, .int .i64 li, .slice na 0 nc] (.bool true) rfl rfl hd.bx ((fun w' h1 h2 => stc_boK _ _ _ _ h1 h2)) (by show 1 < 15; decide) rfl ?_
      intro wx0 bx0 ux0
      have S1 := S0.keep ux0 (fun e => BxS.apart S0 hd.bx (by decide) (Option.some.inj e))
      have kx0 := KpK.bx hd.bx (by decide) ux0
      have hx0 := hd.set ux0 bx0
      refine hKK _ _ (fun _ => S1) ?_
      try simp only [zc1, zc2, zc3, Act.put, zc4, zc5, zc6]
      refine wpAnyZ_take [] 11 (.pointer (some ⟨gw, 0, none⟩)) rfl (by kernel_rfl) (fun _ _ _ h => h) S1 rfl (by intro wz hz; go_simp) ?_
      try simp only [zc1, zc2, zc3, Act.put, zc4, zc5, zc6]
      refine wpAnyZ_take [] 12 (.pointer (some ⟨gw, 0, none⟩)) rfl (by kernel_rfl) (fun _ _ _ h => h) S1 rfl (by intro wz hz; go_simp) ?_
      try simp only [zc1, zc2, zc3, Act.put, zc4, zc5, zc6]
      refine wpAnyZ_take [] 13 (.pointer (some ⟨gw, 2, none⟩)) rfl (by kernel_rfl) (fun _ _ _ h => h) S1 rfl (by intro wz hz; go_simp) ?_
      try simp only [zc1, zc2, zc3, Act.put, zc4, zc5, zc6]
      refine wpAnyZ_oneB 14 rfl (by kernel_rfl) (fun KK hKK => ?_)
      refine step_stCd _ rfl _ _ _ rfl gw 2 112 _ #[.int .i64 id, .bool true, .string nm2, .int .i64 si, .bool en, .int .i64 la, .int .i64 su, .slice q G.length d, .slice a L.length c, .int .i64 0, .int .i64 0, .int .i64 pa, .int .i64 0, .int .i64 li, .slice na 0 nc] (.string nm2) rfl rfl hx0.bx ((fun w' h1 h2 => stc_stK _ _ _ _ h1 h2)) (by show 2 < 15; decide) rfl ?_
      intro wx1 bx1 ux1
      have S2 := S1.keep ux1 (fun e => BxS.apart S1 hx0.bx (by decide) (Option.some.inj e))
      have kx1 := KpK.bx hx0.bx (by decide) ux1
      have hx1 := hx0.set ux1 bx1
      refine hKK _ _ (fun _ => S2) ?_
      try simp only [zc1, zc2, zc3, Act.put, zc4, zc5, zc6]
      refine wpAnyZ_take [] 15 (.pointer (some ⟨gw, 0, none⟩)) rfl (by kernel_rfl) (fun _ _ _ h => h) S2 rfl (by intro wz hz; go_simp) ?_
      try simp only [zc1, zc2, zc3, Act.put, zc4, zc5, zc6]
      refine wpAnyZ_take [] 16 (.pointer (some ⟨gw, 0, none⟩)) rfl (by kernel_rfl) (fun _ _ _ h => h) S2 rfl (by intro wz hz; go_simp) ?_
      try simp only [zc1, zc2, zc3, Act.put, zc4, zc5, zc6]
      refine wpAnyZ_take [] 17 (.pointer (some ⟨gw, 3, none⟩)) rfl (by kernel_rfl) (fun _ _ _ h => h) S2 rfl (by intro wz hz; go_simp) ?_
      try simp only [zc1, zc2, zc3, Act.put, zc4, zc5, zc6]
      refine wpAnyZ_oneB 18 rfl (by kernel_rfl) (fun KK hKK => ?_)
      refine step_stCd _ rfl _ _ _ rfl gw 3 112 _ #[.int .i64 id, .bool true, .string nm2, .int .i64 si2, .bool en, .int .i64 la, .int .i64 su, .slice q G.length d, .slice a L.length c, .int .i64 0, .int .i64 0, .int .i64 pa, .int .i64 0, .int .i64 li, .slice na 0 nc] (.int .i64 si2) rfl rfl hx1.bx ((fun w' h1 h2 => stc_int _ _ _ _ h1 h2)) (by show 3 < 15; decide) rfl ?_
      intro wx2 bx2 ux2
      have S3 := S2.keep ux2 (fun e => BxS.apart S2 hx1.bx (by decide) (Option.some.inj e))
      have kx2 := KpK.bx hx1.bx (by decide) ux2
      have hx2 := hx1.set ux2 bx2
      refine hKK _ _ (fun _ => S3) ?_
      try simp only [zc1, zc2, zc3, Act.put, zc4, zc5, zc6]
      refine wpAnyZ_doneB (by kernel_rfl) ?_ _
      try simp only [Exit.then, Exit.inBlock]
      refine HK1.out _ _ ?_
      clear HK1
      have eK : heK (⟨id, false, nm, si, en, la, su, 0, 0, pa, 0, li, L, G⟩ : Tv) 1 nm2 si2 su2 x D = (⟨id, true, nm2, si2, en, la, su, 0, 0, pa, 0, li, L, G⟩ : Tv) := by unfold heK; rw [if_pos rfl, if_neg (fun e => absurd (show false = true from e) (by decide))]
      rw [eK] at hq
      refine hg_t12 _ wB wx2 gw (⟨id, true, nm2, si2, en, la, su, 0, 0, pa, 0, li, L, G⟩ : Tv) [] (KA.of rfl hx2) hq (by show _ ≤ 900; simp) g3 1 nid nm2 si2 su2 (x : Int) pa2 pn pc ga gm gd o co S3 ?_
      intro w' h9 k9
      refine ⟨rfl, ?_, ((((k3.trans (KpK.none Gd)).trans kx0).trans kx1).trans kx2).trans k9⟩
      show KA wB w' gw (juV (heK (⟨id, false, nm, si, en, la, su, 0, 0, pa, 0, li, L, G⟩ : Tv) 1 nm2 si2 su2 x D)).1 (seT id 1 ++ (juV (heK (⟨id, false, nm, si, en, la, su, 0, 0, pa, 0, li, L, G⟩ : Tv) 1 nm2 si2 su2 x D)).2 ++ gpT (juV (heK (⟨id, false, nm, si, en, la, su, 0, 0, pa, 0, li, L, G⟩ : Tv) 1 nm2 si2 su2 x D)).1 1)
      rw [eK]
      exact h9
  · have y0 : w3.cell? ⟨g3, 0, none⟩ = some (.int .i64 2) := b33.cell 0 (by show 0 < 10; decide)
    refine wp_seq_k fun K1 hK1 => ?_
    have HK1 : Hid _ := hK1
    clear hK1
    refine wp_seq_k fun K2 hK2 => ?_
    have HK2 : Hid _ := hK2
    clear hK2
    go_wp2
    refine HK2.out _ _ ?_
    clear HK2
    refine wp_block ?_
    have x5 : w3.cell? ⟨g3, 5, none⟩ = some (.int .i64 (x : Int)) := b33.cell 5 (by show 5 < 10; decide)
    have x6 : w3.cell? ⟨g3, 6, none⟩ = some (.slice pa2 pn pc) := b33.cell 6 (by show 6 < 10; decide)
    have hpp := HPC.out (by first | rfl | trivial)
    go_wp2_with (go_at_call 122; refine (lay_any _ _ _ _ _ _ _ _ _ _ _ _ _ _ _ _ _ _ _ _ _ _ _ _ _ _ _ h3 x pa2 pn pc D hD hpp.1 hpp.2 HN9.out HGL.out HRI.out).mono ?_; rintro e w4 ⟨rfl, ⟨a4, c4, q4, d4, h4⟩, k4⟩)
    try simp only [Exit.then, Exit.inBlock]
    have h4 : TKW wB w4 gw id kn nm si en la su 0 0 pa 0 li a4 (laL L D (giF G) G.length x).length c4 (laL L D (giF G) G.length x) q4 (wiL (giF G) (x : Int) ((x + D.length : Nat) : Int) G.length).length d4 (wiL (giF G) (x : Int) ((x + D.length : Nat) : Int) G.length) na 0 nc [] := by rw [HDL.out]; exact h4
    refine HK1.out _ _ ?_
    clear HK1
    have eK : heK (⟨id, kn, nm, si, en, la, su, 0, 0, pa, 0, li, L, G⟩ : Tv) 2 nm2 si2 su2 x D = (⟨id, kn, nm, si, en, la, su, 0, 0, pa, 0, li, laL L D (giF G) G.length x, wiL (giF G) (x : Int) ((x + D.length : Nat) : Int) G.length⟩ : Tv) := by unfold heK; rw [if_neg (by decide), if_pos rfl]
    rw [eK] at hq
    refine hg_t12 _ wB w4 gw (⟨id, kn, nm, si, en, la, su, 0, 0, pa, 0, li, laL L D (giF G) G.length x, wiL (giF G) (x : Int) ((x + D.length : Nat) : Int) G.length⟩ : Tv) [] (KA.of (T := []) rfl h4) hq (by show _ ≤ 900; simp) g3 2 nid nm2 si2 su2 (x : Int) pa2 pn pc ga gm gd o co (k4.1 _ _ b33) ?_
    intro w' h9 k9
    refine ⟨rfl, ?_, (k3.trans k4.2).trans k9⟩
    show KA wB w' gw (juV (heK (⟨id, kn, nm, si, en, la, su, 0, 0, pa, 0, li, L, G⟩ : Tv) 2 nm2 si2 su2 x D)).1 (seT id 2 ++ (juV (heK (⟨id, kn, nm, si, en, la, su, 0, 0, pa, 0, li, L, G⟩ : Tv) 2 nm2 si2 su2 x D)).2 ++ gpT (juV (heK (⟨id, kn, nm, si, en, la, su, 0, 0, pa, 0, li, L, G⟩ : Tv) 2 nm2 si2 su2 x D)).1 2)
    rw [eK]
    exact h9
  · have y0 : w3.cell? ⟨g3, 0, none⟩ = some (.int .i64 3) := b33.cell 0 (by show 0 < 10; decide)
    refine wp_seq_k fun K1 hK1 => ?_
    have HK1 : Hid _ := hK1
    clear hK1
    refine wp_seq_k fun K2 hK2 => ?_
    have HK2 : Hid _ := hK2
    clear hK2
    go_wp2
    refine HK2.out _ _ ?_
    clear HK2
    refine wp_block ?_
    have hf3 := h3
    refine wp_seq_k fun K2 hK2 => ?_
    have HK2 : Hid _ := hK2
    clear hK2
    go_wp2
    refine HK2.out _ _ ?_
    clear HK2
    refine wp_cond_false rfl ?_
    refine wp_seq_k fun K2 hK2 => ?_
    have HK2 : Hid _ := hK2
    clear hK2
    go_wp2
    refine HK2.out _ _ ?_
    clear HK2
    refine wp_cond_false rfl ?_
    refine wp_seq_k fun K2 hK2 => ?_
    have HK2 : Hid _ := hK2
    clear hK2
    go_wp2
    refine HK2.out _ _ ?_
    clear HK2
    refine wp_cond_true rfl ?_
    clear y0
    refine wp_seq_k fun K2 hK2 => ?_
    have HK2 : Hid _ := hK2
    clear hK2
    go_wp2_with (go_at_call 104; refine (sendSeen_any _ _ _ _ _ _ _ _ _ _ _ _ _ _ _ _ _ _ _ _ _ _ _ _ _ _ _ h3 (Nat.zero_le _)).mono ?_; rintro e w4 ⟨rfl, ⟨na4, nc4, h4⟩, f4⟩)
    refine HK2.out _ _ ?_
    clear HK2
    have b34 := f4 _ _ _ b33 (fun e => by subst e; exact BxS.apart b33 h3.bx (by decide) rfl) hr3
    have k4 := k3.trans (f4.kp h3)
    have hK4 : ([xSeE id].map Nx.dt) = [ntSeen id] := rfl
    have x4 : w4.cell? ⟨gw, 4, none⟩ = some (.bool en) := h4.bx.cell 4 (by show 4 < 15; decide)
    cases en with
    | true =>
      go_wp2
      try simp only [Exit.then, Exit.inBlock]
      refine HK1.out _ _ ?_
      clear HK1
      have eK : heK (⟨id, kn, nm, si, true, la, su, 0, 0, pa, 0, li, L, G⟩ : Tv) 3 nm2 si2 su2 x D = (⟨id, kn, nm, si, true, la, su, 0, 0, pa, 0, li, L, G⟩ : Tv) := by unfold heK; rw [if_neg (by decide), if_neg (by decide), if_pos rfl, if_pos rfl]
      rw [eK] at hq
      refine hg_t12 _ wB w4 gw (⟨id, kn, nm, si, true, la, su, 0, 0, pa, 0, li, L, G⟩ : Tv) [ntSeen id] (KA.of hK4 h4) hq (by show _ ≤ 900; simp) g3 3 nid nm2 si2 su2 (x : Int) pa2 pn pc ga gm gd o co b34 ?_
      intro w' h9 k9
      refine ⟨rfl, ?_, (k4).trans k9⟩
      show KA wB w' gw (juV (heK (⟨id, kn, nm, si, true, la, su, 0, 0, pa, 0, li, L, G⟩ : Tv) 3 nm2 si2 su2 x D)).1 (seT id 3 ++ (juV (heK (⟨id, kn, nm, si, true, la, su, 0, 0, pa, 0, li, L, G⟩ : Tv) 3 nm2 si2 su2 x D)).2 ++ gpT (juV (heK (⟨id, kn, nm, si, true, la, su, 0, 0, pa, 0, li, L, G⟩ : Tv) 3 nm2 si2 su2 x D)).1 3)
      rw [eK]
      exact h9
    | false =>
      refine wp_seq_k fun K2 hK2 => ?_
      have HK2 : Hid _ := hK2
      clear hK2
      go_wp2
      refine HK2.out _ _ ?_
      clear HK2
      refine wp_cond_true rfl ?_
      clear x4
      have Gd := grown_drew w4 none
      have hd := h4.keepN Gd
      have S0 : BxS w4.drew g3 27 #[.int .i64 3, .int .i64 nid, .string nm2, .int .i64 si2, .int .i64 su2, .int .i64 (x : Int), .slice pa2 pn pc, .slice ga gm gd, .int .i64 o, .int .i64 co] := b34.keep Gd (by simp)
      refine wp_regionL (fun wz => BxS wz g3 27 #[.int .i64 3, .int .i64 nid, .string nm2, .int .i64 si2, .int .i64 su2, .int .i64 (x : Int), .slice pa2 pn pc, .slice ga gm gd, .int .i64 o, .int .i64 co]) [] #[false, false, false, false, false, false, false, false, false, false, false, false, false, false, false, false, false, false, false] rfl (by kernel_rfl) ?_
      generalize w4.drew = wd at *
      refine wpAnyZ_take [] 0 (.pointer (some ⟨gw, 0, none⟩)) rfl (by kernel_rfl) (fun _ _ _ h => h) S0 rfl (by intro wz hz; go_simp) ?_
      try simp only [zc1, zc2, zc3, Act.put, zc4, zc5, zc6]
      refine wpAnyZ_take [] 1 (.pointer (some ⟨gw, 0, none⟩)) rfl (by kernel_rfl) (fun _ _ _ h => h) S0 rfl (by intro wz hz; go_simp) ?_
      try simp only [zc1, zc2, zc3, Act.put, zc4, zc5, zc6]
      refine wpAnyZ_take [] 2 (.pointer (some ⟨gw, 0, none⟩)) rfl (by kernel_rfl) (fun _ _ _ h => h) S0 rfl (by intro wz hz; go_simp) ?_
      try simp only [zc1, zc2, zc3, Act.put, zc4, zc5, zc6]
      refine wpAnyZ_take [] 3 (.pointer (some ⟨g3, 3, none⟩)) rfl (by kernel_rfl) (fun _ _ _ h => h) S0 rfl (by intro wz hz; go_simp) ?_
      try simp only [zc1, zc2, zc3, Act.put, zc4, zc5, zc6]
      refine wpAnyZ_take [] 4 (.int .i64 si2) rfl (by kernel_rfl) (fun _ _ _ h => h) S0 rfl (by intro wz hz; have z : wz.cell? ⟨g3, 3, none⟩ = some (.int .i64 si2) := hz.cell 3 (by show 3 < 10; decide); go_simp) ?_
      try simp only [zc1, zc2, zc3, Act.put, zc4, zc5, zc6]
      refine wpAnyZ_take [] 5 (.pointer (some ⟨g3, 4, none⟩)) rfl (by kernel_rfl) (fun _ _ _ h => h) S0 rfl (by intro wz hz; go_simp) ?_
      try simp only [zc1, zc2, zc3, Act.put, zc4, zc5, zc6]
      refine wpAnyZ_take [] 6 (.int .i64 su2) rfl (by kernel_rfl) (fun _ _ _ h => h) S0 rfl (by intro wz hz; have z : wz.cell? ⟨g3, 4, none⟩ = some (.int .i64 su2) := hz.cell 4 (by show 4 < 10; decide); go_simp) ?_
      try simp only [zc1, zc2, zc3, Act.put, zc4, zc5, zc6]
      refine wpAnyZ_take [] 7 (.pointer (some ⟨gw, 0, none⟩)) rfl (by kernel_rfl) (fun _ _ _ h => h) S0 rfl (by intro wz hz; go_simp) ?_
      try simp only [zc1, zc2, zc3, Act.put, zc4, zc5, zc6]
      refine wpAnyZ_take [] 8 (.pointer (some ⟨gw, 0, none⟩)) rfl (by kernel_rfl) (fun _ _ _ h => h) S0 rfl (by intro wz hz; go_simp) ?_
      try simp only [zc1, zc2, zc3, Act.put, zc4, zc5, zc6]
      refine wpAnyZ_take [] 9 (.pointer (some ⟨gw, 4, none⟩)) rfl (by kernel_rfl) (fun _ _ _ h => h) S0 rfl (by intro wz hz; go_simp) ?_
      try simp only [zc1, zc2, zc3, Act.put, zc4, zc5, zc6]
      refine wpAnyZ_oneB 10 rfl (by kernel_rfl) (fun KK hKK => ?_)
      refine step_stCd _ rfl _ _ _ rfl gw 4 112 _ #[.int .i64 id, .bool kn, .string nm, .int .i64 si, .bool true, .int .i64 la, .int .i64 su, .slice q G.length d, .slice a L.length c, .int .i64 0, .int .i64 0, .int .i64 pa, .int .i64 0, .int .i64 li, .slice na4 (0 + 1) nc4] (.bool true) rfl rfl hd.bx ((fun w' h1 h2 => stc_boK _ _ _ _ h1 h2)) (by show 4 < 15; decide) rfl ?_
      intro wx0 bx0 ux0
      have S1 := S0.keep ux0 (fun e => BxS.apart S0 hd.bx (by decide) (Option.some.inj e))
      have kx0 := KpK.bx hd.bx (by decide) ux0
      have hx0 := hd.set ux0 bx0
      refine hKK _ _ (fun _ => S1) ?_
      try simp only [zc1, zc2, zc3, Act.put, zc4, zc5, zc6]
      refine wpAnyZ_take [] 11 (.pointer (some ⟨gw, 0, none⟩)) rfl (by kernel_rfl) (fun _ _ _ h => h) S1 rfl (by intro wz hz; go_simp) ?_
      try simp only [zc1, zc2, zc3, Act.put, zc4, zc5, zc6]
      refine wpAnyZ_take [] 12 (.pointer (some ⟨gw, 0, none⟩)) rfl (by kernel_rfl) (fun _ _ _ h => h) S1 rfl (by intro wz hz; go_simp) ?_
      try simp only [zc1, zc2, zc3, Act.put, zc4, zc5, zc6]
      refine wpAnyZ_take [] 13 (.pointer (some ⟨gw, 5, none⟩)) rfl (by kernel_rfl) (fun _ _ _ h => h) S1 rfl (by intro wz hz; go_simp) ?_
      try simp only [zc1, zc2, zc3, Act.put, zc4, zc5, zc6]
      refine wpAnyZ_oneB 14 rfl (by kernel_rfl) (fun KK hKK => ?_)
      refine step_stCd _ rfl _ _ _ rfl gw 5 112 _ #[.int .i64 id, .bool kn, .string nm, .int .i64 si, .bool true, .int .i64 si2, .int .i64 su, .slice q G.length d, .slice a L.length c, .int .i64 0, .int .i64 0, .int .i64 pa, .int .i64 0, .int .i64 li, .slice na4 (0 + 1) nc4] (.int .i64 si2) rfl rfl hx0.bx ((fun w' h1 h2 => stc_int _ _ _ _ h1 h2)) (by show 5 < 15; decide) rfl ?_
      intro wx1 bx1 ux1
      have S2 := S1.keep ux1 (fun e => BxS.apart S1 hx0.bx (by decide) (Option.some.inj e))
      have kx1 := KpK.bx hx0.bx (by decide) ux1
      have hx1 := hx0.set ux1 bx1
      refine hKK _ _ (fun _ => S2) ?_
      try simp only [zc1, zc2, zc3, Act.put, zc4, zc5, zc6]
      refine wpAnyZ_take [] 15 (.pointer (some ⟨gw, 0, none⟩)) rfl (by kernel_rfl) (fun _ _ _ h => h) S2 rfl (by intro wz hz; go_simp) ?_
      try simp only [zc1, zc2, zc3, Act.put, zc4, zc5, zc6]
      refine wpAnyZ_take [] 16 (.pointer (some ⟨gw, 0, none⟩)) rfl (by kernel_rfl) (fun _ _ _ h => h) S2 rfl (by intro wz hz; go_simp) ?_
      try simp only [zc1, zc2, zc3, Act.put, zc4, zc5, zc6]
      refine wpAnyZ_take [] 17 (.pointer (some ⟨gw, 6, none⟩)) rfl (by kernel_rfl) (fun _ _ _ h => h) S2 rfl (by intro wz hz; go_simp) ?_
      try simp only [zc1, zc2, zc3, Act.put, zc4, zc5, zc6]
      refine wpAnyZ_oneB 18 rfl (by kernel_rfl) (fun KK hKK => ?_)
      refine step_stCd _ rfl _ _ _ rfl gw 6 112 _ #[.int .i64 id, .bool kn, .string nm, .int .i64 si, .bool true, .int .i64 si2, .int .i64 su2, .slice q G.length d, .slice a L.length c, .int .i64 0, .int .i64 0, .int .i64 pa, .int .i64 0, .int .i64 li, .slice na4 (0 + 1) nc4] (.int .i64 su2) rfl rfl hx1.bx ((fun w' h1 h2 => stc_int _ _ _ _ h1 h2)) (by show 6 < 15; decide) rfl ?_
      intro wx2 bx2 ux2
      have S3 := S2.keep ux2 (fun e => BxS.apart S2 hx1.bx (by decide) (Option.some.inj e))
      have kx2 := KpK.bx hx1.bx (by decide) ux2
      have hx2 := hx1.set ux2 bx2
      refine hKK _ _ (fun _ => S3) ?_
      try simp only [zc1, zc2, zc3, Act.put, zc4, zc5, zc6]
      refine wpAnyZ_doneB (by kernel_rfl) ?_ _
      try simp only [Exit.then, Exit.inBlock]
      refine HK1.out _ _ ?_
      clear HK1
      have eK : heK (⟨id, kn, nm, si, false, la, su, 0, 0, pa, 0, li, L, G⟩ : Tv) 3 nm2 si2 su2 x D = (⟨id, kn, nm, si, true, si2, su2, 0, 0, pa, 0, li, L, G⟩ : Tv) := by unfold heK; rw [if_neg (by decide), if_neg (by decide), if_pos rfl, if_neg (fun e => absurd (show false = true from e) (by decide))]
      rw [eK] at hq
      refine hg_t12 _ wB wx2 gw (⟨id, kn, nm, si, true, si2, su2, 0, 0, pa, 0, li, L, G⟩ : Tv) [ntSeen id] (KA.of hK4 hx2) hq (by show _ ≤ 900; simp) g3 3 nid nm2 si2 su2 (x : Int) pa2 pn pc ga gm gd o co S3 ?_
      intro w' h9 k9
      refine ⟨rfl, ?_, ((((k4.trans (KpK.none Gd)).trans kx0).trans kx1).trans kx2).trans k9⟩
      show KA wB w' gw (juV (heK (⟨id, kn, nm, si, false, la, su, 0, 0, pa, 0, li, L, G⟩ : Tv) 3 nm2 si2 su2 x D)).1 (seT id 3 ++ (juV (heK (⟨id, kn, nm, si, false, la, su, 0, 0, pa, 0, li, L, G⟩ : Tv) 3 nm2 si2 su2 x D)).2 ++ gpT (juV (heK (⟨id, kn, nm, si, false, la, su, 0, 0, pa, 0, li, L, G⟩ : Tv) 3 nm2 si2 su2 x D)).1 3)
      rw [eK]
      exact h9
  · have y0 : w3.cell? ⟨g3, 0, none⟩ = some (.int .i64 6) := b33.cell 0 (by show 0 < 10; decide)
    refine wp_seq_k fun K1 hK1 => ?_
    have HK1 : Hid _ := hK1
    clear hK1
    refine wp_seq_k fun K2 hK2 => ?_
    have HK2 : Hid _ := hK2
    clear hK2
    go_wp2
    refine HK2.out _ _ ?_
    clear HK2
    refine wp_block ?_
    go_wp2
    try simp only [Exit.then, Exit.inBlock]
    refine HK1.out _ _ ?_
    clear HK1
    have eK : heK (⟨id, kn, nm, si, en, la, su, 0, 0, pa, 0, li, L, G⟩ : Tv) 6 nm2 si2 su2 x D = (⟨id, kn, nm, si, en, la, su, 0, 0, pa, 0, li, L, G⟩ : Tv) := by unfold heK; rw [if_neg (by decide), if_neg (by decide), if_neg (by decide)]
    rw [eK] at hq
    refine hg_t12 _ wB w3 gw (⟨id, kn, nm, si, en, la, su, 0, 0, pa, 0, li, L, G⟩ : Tv) [] (KA.of rfl h3) hq (by show _ ≤ 900; simp) g3 6 nid nm2 si2 su2 (x : Int) pa2 pn pc ga gm gd o co b33 ?_
    intro w' h9 k9
    refine ⟨rfl, ?_, (k3).trans k9⟩
    show KA wB w' gw (juV (heK (⟨id, kn, nm, si, en, la, su, 0, 0, pa, 0, li, L, G⟩ : Tv) 6 nm2 si2 su2 x D)).1 (seT id 6 ++ (juV (heK (⟨id, kn, nm, si, en, la, su, 0, 0, pa, 0, li, L, G⟩ : Tv) 6 nm2 si2 su2 x D)).2 ++ gpT (juV (heK (⟨id, kn, nm, si, en, la, su, 0, 0, pa, 0, li, L, G⟩ : Tv) 6 nm2 si2 su2 x D)).1 6)
    rw [eK]
    exact h9
end
end Go.Proofs.Ytnimehkfnpepfaa
