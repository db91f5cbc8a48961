import Derived.Test.YthdjpbfknbafgaaTLf
import Derived.Test.YthdjpbfknbafgaaZBx
import Derived.Test.YthdjpbfknbafgaaTLsB
namespace Go.Proofs.Ythdjpbfknbafgaa
open Go.RowKit Go.Shelf
set_option maxRecDepth 100000
set_option linter.unusedVariables false
set_option linter.unusedSimpArgs false
attribute [local go_sem] Oper.semAt_some

theorem Frm.gr {w w' : World} (h : Frm (fun _ => False) w w') : w.grownBy w' none := ⟨h.os, h.tape, h.output, h.size, fun k hk _ => h.block k hk (fun h => h)⟩
theorem Try.inf_sb : (Try.prog.info? 25).map (fun i => (i.zero, i.size, i.bytes)) = some (some (.slice none 0 0), 1, 24) := by kernel_rfl
theorem rd_frm {w w' : World} {p : Nat → Prop} {g off n c : Nat} {L : List Nat} (h : Rd w (some ⟨g, off, none⟩) n c L) (hF : Frm p w w') (hn : ¬ p g) : Rd w' (some ⟨g, off, none⟩) n c L :=
  ⟨h.len, h.le, h.max, h.nil, h.byte, fun h0 => by
    obtain ⟨b, o, e, hb, hc⟩ := h.at' h0
    have e2 : (⟨g, off, none⟩ : Addr) = ⟨b, o, none⟩ := Option.some.inj e
    cases e2
    exact ⟨g, off, rfl, Nat.lt_of_lt_of_le hb hF.size, fun i hi => cell_frm (hc i hi) hF hn⟩⟩
/-- IT MAKES NO DIFFERENCE IN WHICH PIECES BITS ARE TAKEN -/
theorem cut_all (r : Rx) : ∀ (Ps : List (List Nat)) (s : Mx), (toX r s Ps).flatten = (tkX r s Ps.flatten Ps.flatten.length).2 ∧ mxX r s Ps = (tkX r s Ps.flatten Ps.flatten.length).1
  | [], s => ⟨rfl, rfl⟩
  | A :: Ps, s => by
    obtain ⟨h1, h2⟩ := cut_all r Ps (tkX r s A A.length).1
    have h := tkX_add r s A Ps.flatten Ps.flatten.length
    rw [List.flatten_cons, List.length_append, h]
    refine ⟨?_, ?_⟩
    · show (_ :: toX r _ Ps).flatten = _
      rw [List.flatten_cons, h1]
    · show mxX r _ Ps = _
      rw [h2]
theorem lo_last (r : Rx) (R : List Nat) (Ps : List (List Nat)) (s : Mx) : (loX r s (Ps ++ [R]))[Ps.length]? = some ((mxX r s (Ps ++ [R])).mode != 0) := by
  have hl : ∀ (Ps : List (List Nat)) (s : Mx), (loX r s Ps).length = Ps.length := by
    intro Ps
    induction Ps with
    | nil => intro s; rfl
    | cons A Ps ih => intro s; show (_ :: loX r _ Ps).length = _; rw [List.length_cons, ih]; rfl
  rw [loX_add, mxX_add, List.getElem?_append_right (by rw [hl]; exact Nat.le_refl _), hl, Nat.sub_self]
  rfl
/-- a piece of the row gc -/
structure RdB (w : World) (gc : Nat) (a : Option Addr) (n c : Nat) (L : List Nat) : Prop where
  rd : Rd w a n c L
  blk : ∀ b, a = some b → b.block = gc ∧ b.spot = none
theorem RdB.frm {w w' : World} {p : Nat → Prop} {gc n c : Nat} {a : Option Addr} {L : List Nat} (h : RdB w gc a n c L) (hF : Frm p w w') (hn : ¬ p gc) : RdB w' gc a n c L := by
  refine ⟨?_, h.blk⟩
  cases a with
  | none => exact ⟨h.rd.len, h.rd.le, h.rd.max, h.rd.nil, h.rd.byte, fun h0 => by
      obtain ⟨b, o, e, _⟩ := h.rd.at' h0
      cases e⟩
  | some b =>
    obtain ⟨h1, h2⟩ := h.blk b rfl
    obtain ⟨bb, bo, bs⟩ := b
    dsimp only at h1 h2
    subst h1 h2
    exact rd_frm h.rd hF hn
theorem RdB.cut {w : World} {gc o n c p : Nat} {L : List Nat} (h : RdB w gc (some ⟨gc, o, none⟩) n c L) (hp : p ≤ n) : RdB w gc (some ⟨gc, o, none⟩) p c (L.take p) ∧ RdB w gc (if c = p then some ⟨gc, o, none⟩ else some ⟨gc, o + p, none⟩) (n - p) (c - p) (L.drop p) := by
  have hl := h.rd.len
  have hle := h.rd.le
  have hmx := h.rd.max
  have nt : ∀ i, i < p → nth (L.take p) i = nth L i := fun i hi => by
    unfold nth
    rw [List.getD_eq_getElem?_getD, List.getD_eq_getElem?_getD, List.getElem?_take, if_pos hi]
  have nd : ∀ i, nth (L.drop p) i = nth L (p + i) := fun i => by
    unfold nth
    rw [List.getD_eq_getElem?_getD, List.getD_eq_getElem?_getD, List.getElem?_drop]
  refine ⟨⟨⟨by rw [List.length_take]; omega, by omega, hmx, (fun e => by cases e), fun x hx => h.rd.byte x (List.mem_of_mem_take hx), fun h0 => ?_⟩, fun b e => by cases e; exact ⟨rfl, rfl⟩⟩, ⟨⟨by rw [List.length_drop]; omega, by omega, by omega, (fun e => by split at e <;> cases e), fun x hx => h.rd.byte x (List.mem_of_mem_drop hx), fun h0 => ?_⟩, fun b e => by split at e <;> cases e <;> exact ⟨rfl, rfl⟩⟩⟩
  · obtain ⟨b, o', e, hb, hc⟩ := h.rd.at' (by omega)
    cases e
    exact ⟨gc, o, rfl, hb, fun i hi => by rw [nt i hi]; exact hc i (by omega)⟩
  · obtain ⟨b, o', e, hb, hc⟩ := h.rd.at' (by omega)
    cases e
    refine ⟨gc, o + p, by rw [if_neg (by omega)], hb, fun i hi => ?_⟩
    rw [nd i, Nat.add_assoc]
    exact hc (p + i) (by omega)
/-- the pieces so far, their slices in V -/
structure CuP (w : World) (gc : Nat) (V : List Value) (Ps : List (List Nat)) : Prop where
  len : V.length = Ps.length
  at' : ∀ (i : Nat) v B, V[i]? = some v → Ps[i]? = some B → ∃ a m c, v = .slice a m c ∧ RdB w gc a m c B
theorem CuP.frm {w w' : World} {p : Nat → Prop} {gc : Nat} {V : List Value} {Ps : List (List Nat)} (h : CuP w gc V Ps) (hF : Frm p w w') (hn : ¬ p gc) : CuP w' gc V Ps :=
  ⟨h.len, fun i v B h1 h2 => by
    obtain ⟨a, m, c, e, hr⟩ := h.at' i v B h1 h2
    exact ⟨a, m, c, e, hr.frm hF hn⟩⟩
theorem CuP.add {w : World} {gc m c : Nat} {a : Option Addr} {V : List Value} {Ps : List (List Nat)} {B : List Nat} (h : CuP w gc V Ps) (hr : RdB w gc a m c B) : CuP w gc (V ++ [.slice a m c]) (Ps ++ [B]) := by
  refine ⟨by rw [List.length_append, List.length_append, h.len]; rfl, fun i v B' h1 h2 => ?_⟩
  by_cases hi : i < V.length
  · rw [List.getElem?_append_left hi] at h1
    rw [List.getElem?_append_left (by rw [← h.len]; exact hi)] at h2
    exact h.at' i v B' h1 h2
  · rw [List.getElem?_append_right (by omega)] at h1
    rw [List.getElem?_append_right (by rw [← h.len]; omega)] at h2
    have hl : i - V.length < 1 := (List.getElem?_eq_some_iff.1 h1).1
    have e : i - V.length = 0 := by omega
    rw [e] at h1
    rw [← h.len, e] at h2
    cases h1
    cases h2
    exact ⟨a, m, c, rfl, hr⟩
theorem CuP.rdps {w : World} {lo gc n c : Nat} {a : Option Addr} {V : List Value} {Ps : List (List Nat)} (h : CuP w gc V Ps) (hA : AnsX 25 w lo a n c V) : RdPs w a n c Ps := by
  refine ⟨by rw [← h.len]; exact hA.len, fun h0 => ?_⟩
  rcases hA.cases with ⟨_, h2, _⟩ | ⟨g, rfl, _⟩
  · omega
  · refine ⟨g, 0, rfl, fun i B hB => ?_⟩
    have hi : i < V.length := by rw [h.len]; exact (List.getElem?_eq_some_iff.1 hB).1
    obtain ⟨a, m, c, e, hr⟩ := h.at' i _ B (List.getElem?_eq_getElem hi) hB
    have hc := hA.cell i _ (List.getElem?_eq_getElem hi)
    rw [e] at hc
    rw [Nat.zero_add]
    exact ⟨a, m, c, hc, hr.rd⟩
theorem sumX_flat : ∀ Ps : List (List Nat), sumX Ps = Ps.flatten.length
  | [] => rfl
  | A :: Ps => by
    show A.length + sumX Ps = _
    rw [sumX_flat Ps, List.flatten_cons, List.length_append]
theorem len_flat {B : List Nat} : ∀ Ps : List (List Nat), B ∈ Ps → B.length ≤ Ps.flatten.length
  | [], h => by cases h
  | A :: Ps, h => by
    rw [List.flatten_cons, List.length_append]
    rcases List.mem_cons.1 h with rfl | h
    · omega
    · have := len_flat Ps h; omega

set_option maxHeartbeats 16000000 in
theorem cu_9bad {u0 u2 u4 u5 u9 u10 u11 u12 u13 u14 u15 u16 u17 u18 u19 u20 u21 u22 u23 u24 u25 u26 u27 u28 u29 u30 u31 u32 u33 u34 u35 u36 u37 u38 u39 u40 u41 u42 u43 u44 u45 u46 u47 u48 u49 u50 u51 u52 u53 u54 u55 u56 u57 u58 u59 u60 u61 u62 u63 u64 u65 u66 u67 u68 u69 u70 u71 u72 u73 u74 u75 u76 u77 u78 u79 u80 u81 u82 u83 u84 u85 u86 u87 u88 u89 u90 u91 u92 u93 u94 u95 u96 u97 u98 u99 u100 u101 u102 u103 u104 u105 u106 u107 u108 u109 u110 u111 u112 u113 u114 u115 u116 u117 u118 u119 u120 u121 u122 u123 u124 u125 u126 u127 u128 u129 u130 u131 u132 u133 u134 u135 u136 u137 u138 u139 u140 u141 u142 u143 u144 u145 u146 u147 u148 u149 u150 u151 u152 u153 u154 u155 u156 u157 u158 u159 u160 u161 u162 u163 u164 u165 u166 u167 u168 u169 u170 u171 u172 u173 u174 u175 u176 u177 u178 u179 u180 u181 u182 u183 u184 u185 u186 u187 u188 u189 u190 : Value} (w0 W : World) (g k n1 c1 c7 nr cr gc : Nat) (L0 F0 H0 M0 : Int) (a1 a7 ar : Option Addr) (V : List Value) (Ps : List (List Nat)) (B R : List Nat) (hk : k ≤ 50) (hB : B.length ≤ 1048576) (hfl : Ps.flatten ++ R = B)
    (b : BxS W g 23 #[.int .i64 L0, .int .i64 F0, .int .i64 H0, .int .i64 M0]) (hR1 : Rd w0 a1 n1 c1 B) (hX : AnsX 25 W w0.heap.size a7 k c7 V) (hP : CuP W gc V Ps) (hr : RdB W gc ar nr cr R) (h7 : ∀ x, (Value.slice a7 k c7).ownBlock = some x → x ≠ gc) (Fr : Frm (fun _ => False) w0 W) (hbad : ruE L0 F0 H0 M0 ≠ 0) :
    Code.wp Try.prog (tailR 9 (Try.f4.body.getD .skip)) (bodyPost Try.prog Try.f4 (fun e w' => e = .returned (.bool true) ∧ w0.grownBy w' none)) (Act.mk (List.toArray (u0 :: (.slice a1 n1 c1) :: u2 :: (.pointer (some ⟨g, 0, none⟩)) :: u4 :: u5 :: (.bool false) :: (.slice a7 k c7) :: (.slice ar nr cr) :: u9 :: u10 :: u11 :: u12 :: u13 :: u14 :: u15 :: u16 :: u17 :: u18 :: u19 :: u20 :: u21 :: u22 :: u23 :: u24 :: u25 :: u26 :: u27 :: u28 :: u29 :: u30 :: u31 :: u32 :: u33 :: u34 :: u35 :: u36 :: u37 :: u38 :: u39 :: u40 :: u41 :: u42 :: u43 :: u44 :: u45 :: u46 :: u47 :: u48 :: u49 :: u50 :: u51 :: u52 :: u53 :: u54 :: u55 :: u56 :: u57 :: u58 :: u59 :: u60 :: u61 :: u62 :: u63 :: u64 :: u65 :: u66 :: u67 :: u68 :: u69 :: u70 :: u71 :: u72 :: u73 :: u74 :: u75 :: u76 :: u77 :: u78 :: u79 :: u80 :: u81 :: u82 :: u83 :: u84 :: u85 :: u86 :: u87 :: u88 :: u89 :: u90 :: u91 :: u92 :: u93 :: u94 :: u95 :: u96 :: u97 :: u98 :: u99 :: u100 :: u101 :: u102 :: u103 :: u104 :: u105 :: u106 :: u107 :: u108 :: u109 :: u110 :: u111 :: u112 :: u113 :: u114 :: u115 :: u116 :: u117 :: u118 :: u119 :: u120 :: u121 :: u122 :: u123 :: u124 :: u125 :: u126 :: u127 :: u128 :: u129 :: u130 :: u131 :: u132 :: u133 :: u134 :: u135 :: u136 :: u137 :: u138 :: u139 :: u140 :: u141 :: u142 :: u143 :: u144 :: u145 :: u146 :: u147 :: u148 :: u149 :: u150 :: u151 :: u152 :: u153 :: u154 :: u155 :: u156 :: u157 :: u158 :: u159 :: u160 :: u161 :: u162 :: u163 :: u164 :: u165 :: u166 :: u167 :: u168 :: u169 :: u170 :: u171 :: u172 :: u173 :: u174 :: u175 :: u176 :: u177 :: u178 :: u179 :: u180 :: u181 :: u182 :: u183 :: u184 :: u185 :: u186 :: u187 :: u188 :: u189 :: u190 :: [])) []) W := by
  conv => enter [2]; whnf
  have hc0 : W.cell? ⟨g, 0, none⟩ = some (.int .i64 L0) := b.cell 0 (by show 0 < 4; decide)
  have hc1 : W.cell? ⟨g, 1, none⟩ = some (.int .i64 F0) := b.cell 1 (by show 1 < 4; decide)
  have hc2 : W.cell? ⟨g, 2, none⟩ = some (.int .i64 H0) := b.cell 2 (by show 2 < 4; decide)
  have hc3 : W.cell? ⟨g, 3, none⟩ = some (.int .i64 M0) := b.cell 3 (by show 3 < 4; decide)
  have OB := heap_alloc_new W (.cells #[.slice ar nr cr] 25)
  have Fa : Frm (fun _ => False) W (W.alloc (.cells #[.slice ar nr cr] 25)) := Frm.of (World.grownBy_alloc W _ none) (fun k e _ => by cases e)
  have hXa := hX.frm Fa (fun _ _ h => h)
  have hza := Fa.size
  have hz0 := Fr.size
  have hgc : ∀ x, (Value.slice a7 k c7).ownBlock = some x → ∃ cs, (W.alloc (.cells #[.slice ar nr cr] 25)).heap[x]? = some (.cells cs 25) := fun x hx => (row_lt hXa.own hx).2
  refine wp_seq_k fun K9 hK9 => ?_
  have HK9 : Hid _ := hK9
  clear hK9
  go_wp2_with (refine wpList_psR _ Try.underlying24 Try.inf_sb rfl (by decide) (.slice ar nr cr) rfl rfl _ _ rfl a7 k c7 w0.heap.size V rfl hXa (by omega) W.heap.size rfl (cell_of_row _ _ 0 _ _ _ OB) (by omega) ?_; intro g7 d7 w9 hX9 g9 hx9)
  (try simp only [Exit.inBlock, Exit.then])
  refine HK9.out _ _ ?_
  clear HK9
  have F9 : Frm (fun k' => (Value.slice a7 k c7).ownBlock = some k') (W.alloc (.cells #[.slice ar nr cr] 25)) w9 := Frm.of g9 (fun k e _ => e)
  have F09 : Frm (fun k' => (Value.slice a7 k c7).ownBlock = some k') W w9 := (Fa.weak (q := fun k' => (Value.slice a7 k c7).ownBlock = some k') (fun _ _ h => h.elim)).trans F9 (fun _ _ h => h)
  have b9 : BxS w9 g 23 #[.int .i64 L0, .int .i64 F0, .int .i64 H0, .int .i64 M0] := (F09.block _ b.lt (fun h => by
    obtain ⟨cs, e⟩ := hgc g h
    have e2 := (Fa.block g b.lt (fun h => h)).trans b
    exact cells_ne e e2 (by decide))).trans b
  have hP9 := (hP.add hr).frm F09 (fun h => h7 gc h rfl)
  have hps := hP9.rdps hX9
  have hfl9 : (Ps ++ [R]).flatten = B := by rw [List.flatten_append, ← hfl]; simp
  have hk9 : (Ps ++ [R]).length = k + 1 := hps.len
  have Fr9 : Frm (fun _ => False) w0 w9 := Fr.trans F09 (fun k' hk' h => by have := hX.new k' h; omega)
  have hLi := fun ap np cp w => listen_bad L0 F0 H0 M0 ap np cp w hbad
  have hL3 := fun w => listen_bad 0 0 0 0 none 0 0 w (by decide)
  have e1 : ruE 0 0 0 0 = 1 := by decide
  rw [e1] at hL3
  obtain ⟨x, hx⟩ : ∃ x, x = ruE L0 F0 H0 M0 := ⟨_, rfl⟩
  rw [← hx] at hLi hbad
  have hxi : ¬ (x : Int) = 0 := by omega
  clear hx hbad e1
  unfold ruZ at hLi hL3
  have d0 : w9.cell? ⟨g, 0, none⟩ = some (.int .i64 L0) := b9.cell 0 (by show 0 < 4; decide)
  have d1 : w9.cell? ⟨g, 1, none⟩ = some (.int .i64 F0) := b9.cell 1 (by show 1 < 4; decide)
  have d2 : w9.cell? ⟨g, 2, none⟩ = some (.int .i64 H0) := b9.cell 2 (by show 2 < 4; decide)
  have d3 : w9.cell? ⟨g, 3, none⟩ = some (.int .i64 M0) := b9.cell 3 (by show 3 < 4; decide)
  have gA := World.grownBy_alloc w9 (.cells #[.slice a1 n1 c1] 25) none
  refine wp_seq_k fun K10 hK10 => ?_
  have HK10 : Hid _ := hK10
  clear hK10
  go_wp2_with (go_at_call 8; refine (hLi _ _ _ _).mono ?_; rintro e w10 ⟨rfl, g10⟩)
  (try simp only [Exit.inBlock, Exit.then])
  refine HK10.out _ _ ?_
  clear HK10
  have F10 : Frm (fun _ => False) w9 w10 := (Frm.of (p := fun _ => False) gA (fun k e _ => by cases e)).trans (Frm.of (p := fun _ => False) g10 (fun k e _ => by cases e)) (fun _ _ h => h)
  replace d0 := cell_frm d0 F10 (fun h => h)
  replace d1 := cell_frm d1 F10 (fun h => h)
  replace d2 := cell_frm d2 F10 (fun h => h)
  replace d3 := cell_frm d3 F10 (fun h => h)
  clear gA g10
  refine wp_seq_k fun K11 hK11 => ?_
  have HK11 : Hid _ := hK11
  clear hK11
  go_wp2_with (go_at_call 8; refine (hLi _ _ _ _).mono ?_; rintro e w11 ⟨rfl, g11⟩)
  (try simp only [Exit.inBlock, Exit.then])
  refine HK11.out _ _ ?_
  clear HK11
  refine wp_seq_k fun K12 hK12 => ?_
  have HK12 : Hid _ := hK12
  clear hK12
  go_wp2_with (go_at_call 8; refine (hL3 _).mono ?_; rintro e w12 ⟨rfl, g12⟩)
  (try simp only [Exit.inBlock, Exit.then])
  refine HK12.out _ _ ?_
  clear HK12
  have HF : Hid _ := ((Fr9.trans F10 (fun _ _ h => h)).trans (Frm.of (p := fun _ => False) g11 (fun k e _ => by cases e)) (fun _ _ h => h)).trans (Frm.of (p := fun _ => False) g12 (fun k e _ => by cases e)) (fun _ _ h => h)
  refine wp_seq_k fun K13 hK13 => ?_
  have HK13 : Hid _ := hK13
  clear hK13
  go_wp2
  (try simp only [Exit.inBlock, Exit.then])
  refine HK13.out _ _ ?_
  clear HK13
  go_wp2
  go_ret
  exact ⟨rfl, HF.out.gr⟩
end Go.Proofs.Ythdjpbfknbafgaa
