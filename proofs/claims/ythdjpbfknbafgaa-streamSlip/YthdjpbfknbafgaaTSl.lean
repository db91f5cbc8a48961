import Derived.Test.YthdjpbfknbafgaaTAl
import Derived.Test.YthdjpbfknbafgaaTSm
namespace Go.Proofs.Ythdjpbfknbafgaa
open Go.RowKit Go.Shelf
set_option maxRecDepth 100000
set_option linter.unusedVariables false
set_option linter.unusedSimpArgs false
attribute [local go_sem] Oper.semAt_some

theorem wpAnyY_skipT {P : Program} {ops : Array Oper} {Q : Exit → Act → World → Prop} {md : Region.Mode} {S : World → Prop} {Z : List Nat} (i : Nat) {oi : Oper} {fuel : Nat} {listed : Array Bool} {a : Act} {w : World} (hi : ops[i]? = some oi)
    (hs : (Region.noSelect ops && Region.free md ops listed i && (Region.ready md ops listed).contains i) = true)
    (hQ : ∀ c a w, Q (.panic c) (a.put oi.dst undef) w → Q (.panic c) a w) (hw : Region.wanted oi (yielded ops a.tmps) = false)
    (h : wpAnyY P md ops Q S Z fuel (listed.setIfInBounds i true) (a.put oi.dst undef) w) : wpAnyY P md ops Q S Z (fuel + 1) listed a w := by
  simp only [Bool.and_eq_true, List.contains_iff_mem] at hs
  exact wpAnyY_firstF hi (Region.noSelect_spec hs.1.1) hQ fuel listed a w (Region.free_spec hi hs.1.2) hs.2 (.inr ⟨hw, rfl⟩) h
/-- 'append(v, x...)' of slices of bytes, whatever x is -/
theorem wpList_apB2 {w : World} {ops : Array Oper} {rest : List Oper} {o : Oper} {a : Act} {Q : Exit → Act → World → Prop} (hg : o.guard = none) (s x : Operand)
    (hop : o.op = Op.call { callee := .builtin .append, args := #[s, x], argTypes := #[24, 24] }) (ao : Option Addr) (m co lo : Nat) (D : List Value) (hs : a.eval s = .slice ao m co)
    (hA : AnsX 25 w lo ao m co D) (hlo : lo ≤ w.heap.size) (ax : Option Addr) (nx cx : Nat) (X : List Value) (hx : a.eval x = .slice ax nx cx) (hR : RdX w ax nx cx X) (hb : (m + nx) * 24 ≤ 150000000000000)
    (hK : ∀ a' c' w', AnsX 25 w' lo a' (m + nx) c' (D ++ X) → w.grownBy w' (Value.slice ao m co).ownBlock → wpList Try.prog ops Q rest (a.put o.dst (.slice a' (m + nx) c')) w') :
    wpList Try.prog ops Q (o :: rest) a w := by
  obtain ⟨i0, hi, hz0, hz1, hz2⟩ := info_parts Try.inf_sb
  cases ax with
  | none =>
    have hc0 : cx = 0 := hR.nil rfl
    have hn0 : nx = 0 := by have := hR.le; omega
    subst hc0 hn0
    have e0 : X = [] := List.eq_nil_of_length_eq_zero hR.len
    subst e0
    refine wpList_append_own_none hg s x 24 hop 0 25 i0 1 Try.underlying24 hi (.slice ao m co) m D hs hA.own hx ?_
    exact hK ao co w (by rw [List.append_nil]; exact hA) (World.grownBy.refl _ _)
  | some ad =>
    have hl := hR.len
    have hq : ∀ u, u ∈ D ++ X → u.oneCell' = true := fun u hu => by
      rcases List.mem_append.1 hu with h | h
      · exact hA.one u h
      · exact hR.one u h
    have hfq : ((m + nx) / 4) * 24 * 4 ≤ (m + nx) * 24 := by
      rw [Nat.mul_right_comm]
      exact Nat.mul_le_mul_right _ (Nat.div_mul_le_self _ _)
    have hfe : (m + nx + (m + nx) / 4 + 192) * 24 = (m + nx) * 24 + ((m + nx) / 4) * 24 + 192 * 24 := by rw [Nat.add_mul, Nat.add_mul]
    refine wpList_append_own_wide w hg s x 24 hop lo 25 i0 (.slice none 0 0) 1 24 Try.underlying24 hi hz0 hz1 hz2 rfl (by decide) (.slice ao m co) m D hs hA.up ad nx cx X hx (by omega) ?_ hR.one (by unfold maxLen; omega) (by rw [hfe]; omega) hlo ?_
    · intro j u hu
      have hj : j < X.length := (List.getElem?_eq_some_iff.1 hu).1
      obtain ⟨b, off, e', _, hc⟩ := hR.at' (by omega)
      cases e'
      rw [addr_add]
      exact hc j u hu
    · intro v' w' hown hgr _
      obtain ⟨a', c', rfl, hA'⟩ := own_ansX hown hq
      exact hK a' c' w' hA' hgr
/-- slices of bytes as they are read, one by one -/
structure PsX (w : World) (a : Option Addr) (n c : Nat) (V : List Value) (Ps : List (List Nat)) : Prop where
  rd : RdX w a n c V
  len : V.length = Ps.length
  at' : ∀ (i : Nat) v B, V[i]? = some v → Ps[i]? = some B → ∃ a m c, v = .slice a m c ∧ Rd w a m c B
theorem PsX.keepF {w w' : World} {a : Option Addr} {n c : Nat} {V : List Value} {Ps : List (List Nat)} (h : PsX w a n c V Ps) (hF : Frm (fun _ => False) w w') : PsX w' a n c V Ps :=
  ⟨h.rd.keep hF.gr, h.len, fun i v B h1 h2 => by
    obtain ⟨a, m, c, e, hr⟩ := h.at' i v B h1 h2
    exact ⟨a, m, c, e, Rd.keepF (p := fun _ => False) hr hF⟩⟩
theorem AnsX.pieces {w : World} {lo : Nat} {a : Option Addr} {n c : Nat} {V : List Value} {Ps : List (List Nat)} (h : AnsX 25 w lo a n c V) (hl : V.length = Ps.length) (hp : ∀ (i : Nat) v B, V[i]? = some v → Ps[i]? = some B → ∃ a m c, v = .slice a m c ∧ Rd w a m c B) : RdPs w a n c Ps := by
  refine ⟨by rw [← hl]; exact h.len, fun h0 => ?_⟩
  rcases h.cases with ⟨_, h2, _⟩ | ⟨g, rfl, _⟩
  · omega
  · refine ⟨g, 0, rfl, fun i B hB => ?_⟩
    have hi : i < V.length := by rw [hl]; exact (List.getElem?_eq_some_iff.1 hB).1
    obtain ⟨a, m, c, e, hr⟩ := hp i _ B (List.getElem?_eq_getElem hi) hB
    have hc := h.cell i _ (List.getElem?_eq_getElem hi)
    rw [e] at hc
    rw [Nat.zero_add]
    exact ⟨a, m, c, hc, hr⟩
theorem rd_oneT (w : World) (x : Nat) (hx : x < 256) : Rd (w.alloc (.cells #[.int .u8 (x : Int)] 5)) (some ⟨w.heap.size, 0, none⟩) 1 1 [x] := by
  have hb : Blk (w.alloc (.cells #[.int .u8 (x : Int)] 5)) w.heap.size [x] := heap_alloc_new w _
  exact hb.rd (fun y hy => by rw [List.mem_singleton.1 hy]; exact hx) rfl (by unfold maxLen; omega)

set_option maxHeartbeats 16000000 in
theorem sl_1 {u0 u1 u2 u3 u4 u5 u7 u8 u9 u10 u11 u12 u13 u14 u15 u16 u17 u18 u19 u20 u21 u22 u23 u24 u25 u26 u27 u28 u29 u30 u31 u32 u33 u34 u35 u36 u37 u38 u39 u40 u41 u42 u43 u44 u45 u46 u47 u48 u49 u50 u51 u52 u53 u54 u55 u56 u57 u58 u59 u60 u61 u62 u63 u64 u65 u66 u67 u68 u69 u70 u71 u72 u73 u74 u75 u76 u77 u78 u79 u80 u81 u82 u83 u84 u85 u86 u87 u88 u89 u90 u91 u92 u93 u94 u95 u96 u97 u98 u99 u100 u101 u102 u103 u104 u105 u106 u107 u108 u109 u110 u111 u112 u113 u114 u115 u116 u117 u118 u119 u120 u121 u122 u123 u124 u125 u126 u127 u128 u129 u130 u131 u132 u133 u134 u135 u136 u137 u138 u139 u140 u141 u142 u143 u144 u145 u146 u147 u148 u149 u150 u151 u152 u153 u154 u155 u156 u157 u158 u159 u160 u161 u162 u163 u164 u165 u166 u167 u168 u169 u170 u171 : Value} (Q : Exit → Act → World → Prop) (w : World) (g : Nat) (L0 F0 H0 M0 : Int) (b : BxS w g 23 #[.int .i64 L0, .int .i64 F0, .int .i64 H0, .int .i64 M0])
    (hL0 : -9223372036854775808 ≤ L0 ∧ L0 ≤ 9223372036854775807) (hF0 : -9223372036854775808 ≤ F0 ∧ F0 ≤ 9223372036854775807) (hH0 : -9223372036854775808 ≤ H0 ∧ H0 ≤ 9223372036854775807) (hM0 : -9223372036854775808 ≤ M0 ∧ M0 ≤ 9223372036854775807)
    (hP : ∀ c a a' w, a.defers = a'.defers → Q (.panic c) a w → Q (.panic c) a' w)
    (hQ : ∀ (l f h m : Nat) W z29 z30 z31 z32 z33 z34 z35 z36 z37 z38 z39 z40 z41 z42, l < 40 → f < 4 → h < 8 → m < 9 → BxS W g 23 #[.int .i64 ((1 + l : Nat) : Int), .int .i64 (f : Nat), .int .i64 (h : Nat), .int .i64 (m : Nat)] → w.grownBy W (some g) → Q .normal (Act.mk (List.toArray (u0 :: u1 :: u2 :: u3 :: u4 :: u5 :: (.pointer (some ⟨g, 0, none⟩)) :: u7 :: u8 :: u9 :: u10 :: u11 :: u12 :: u13 :: u14 :: u15 :: u16 :: u17 :: u18 :: u19 :: u20 :: u21 :: u22 :: u23 :: u24 :: u25 :: u26 :: u27 :: u28 :: z29 :: z30 :: z31 :: z32 :: z33 :: z34 :: z35 :: z36 :: z37 :: z38 :: z39 :: z40 :: z41 :: z42 :: u43 :: u44 :: u45 :: u46 :: u47 :: u48 :: u49 :: u50 :: u51 :: u52 :: u53 :: u54 :: u55 :: u56 :: u57 :: u58 :: u59 :: u60 :: u61 :: u62 :: u63 :: u64 :: u65 :: u66 :: u67 :: u68 :: u69 :: u70 :: u71 :: u72 :: u73 :: u74 :: u75 :: u76 :: u77 :: u78 :: u79 :: u80 :: u81 :: u82 :: u83 :: u84 :: u85 :: u86 :: u87 :: u88 :: u89 :: u90 :: u91 :: u92 :: u93 :: u94 :: u95 :: u96 :: u97 :: u98 :: u99 :: u100 :: u101 :: u102 :: u103 :: u104 :: u105 :: u106 :: u107 :: u108 :: u109 :: u110 :: u111 :: u112 :: u113 :: u114 :: u115 :: u116 :: u117 :: u118 :: u119 :: u120 :: u121 :: u122 :: u123 :: u124 :: u125 :: u126 :: u127 :: u128 :: u129 :: u130 :: u131 :: u132 :: u133 :: u134 :: u135 :: u136 :: u137 :: u138 :: u139 :: u140 :: u141 :: u142 :: u143 :: u144 :: u145 :: u146 :: u147 :: u148 :: u149 :: u150 :: u151 :: u152 :: u153 :: u154 :: u155 :: u156 :: u157 :: u158 :: u159 :: u160 :: u161 :: u162 :: u163 :: u164 :: u165 :: u166 :: u167 :: u168 :: u169 :: u170 :: u171 :: [])) []) W) :
    Code.wp Try.prog (headT (tailR 1 (Try.f6.body.getD .skip))) Q (Act.mk (List.toArray (u0 :: u1 :: u2 :: u3 :: u4 :: u5 :: (.pointer (some ⟨g, 0, none⟩)) :: u7 :: u8 :: u9 :: u10 :: u11 :: u12 :: u13 :: u14 :: u15 :: u16 :: u17 :: u18 :: u19 :: u20 :: u21 :: u22 :: u23 :: u24 :: u25 :: u26 :: u27 :: u28 :: u29 :: u30 :: u31 :: u32 :: u33 :: u34 :: u35 :: u36 :: u37 :: u38 :: u39 :: u40 :: u41 :: u42 :: u43 :: u44 :: u45 :: u46 :: u47 :: u48 :: u49 :: u50 :: u51 :: u52 :: u53 :: u54 :: u55 :: u56 :: u57 :: u58 :: u59 :: u60 :: u61 :: u62 :: u63 :: u64 :: u65 :: u66 :: u67 :: u68 :: u69 :: u70 :: u71 :: u72 :: u73 :: u74 :: u75 :: u76 :: u77 :: u78 :: u79 :: u80 :: u81 :: u82 :: u83 :: u84 :: u85 :: u86 :: u87 :: u88 :: u89 :: u90 :: u91 :: u92 :: u93 :: u94 :: u95 :: u96 :: u97 :: u98 :: u99 :: u100 :: u101 :: u102 :: u103 :: u104 :: u105 :: u106 :: u107 :: u108 :: u109 :: u110 :: u111 :: u112 :: u113 :: u114 :: u115 :: u116 :: u117 :: u118 :: u119 :: u120 :: u121 :: u122 :: u123 :: u124 :: u125 :: u126 :: u127 :: u128 :: u129 :: u130 :: u131 :: u132 :: u133 :: u134 :: u135 :: u136 :: u137 :: u138 :: u139 :: u140 :: u141 :: u142 :: u143 :: u144 :: u145 :: u146 :: u147 :: u148 :: u149 :: u150 :: u151 :: u152 :: u153 :: u154 :: u155 :: u156 :: u157 :: u158 :: u159 :: u160 :: u161 :: u162 :: u163 :: u164 :: u165 :: u166 :: u167 :: u168 :: u169 :: u170 :: u171 :: [])) []) w := by
  conv => enter [2]; whnf
  have HQ : Hid _ := hQ
  clear hQ
  have Gd := grown_drew w none
  have bd := b.keep Gd (by simp)
  have SS : w.drew.cell? ⟨g, 0, none⟩ = some (.int .i64 L0) ∧ w.drew.cell? ⟨g, 1, none⟩ = some (.int .i64 F0) ∧ w.drew.cell? ⟨g, 2, none⟩ = some (.int .i64 H0) ∧ w.drew.cell? ⟨g, 3, none⟩ = some (.int .i64 M0) := ⟨bd.cell 0 (by show 0 < 4; decide), bd.cell 1 (by show 1 < 4; decide), bd.cell 2 (by show 2 < 4; decide), bd.cell 3 (by show 3 < 4; decide)⟩
  refine wp_regionM (fun wz => wz.cell? ⟨g, 0, none⟩ = some (.int .i64 L0) ∧ wz.cell? ⟨g, 1, none⟩ = some (.int .i64 F0) ∧ wz.cell? ⟨g, 2, none⟩ = some (.int .i64 H0) ∧ wz.cell? ⟨g, 3, none⟩ = some (.int .i64 M0)) [14] #[false, false, false, false, false, false, false, false, false, false, false, false, false, false, false] rfl (by kernel_rfl) ?_
  generalize w.drew = wd at *
  refine wpAnyY_takeF 0 (.pointer (some ⟨g, 0, none⟩)) rfl (by kernel_rfl) (fun _ _ _ h => hP _ _ _ _ (by rfl) h) rfl (by intro wz; go_simp; try rfl) ?_
  try simp only [List.getElem_toArray, List.getElem_cons_succ, List.getElem_cons_zero, Act.put, List.setIfInBounds_toArray, List.set_cons_zero, List.set_cons_succ]
  refine wpAnyY_take [14] 1 (.int .i64 L0) rfl (by kernel_rfl) (fun _ _ _ h => hP _ _ _ _ (by rfl) h) SS rfl (by rintro wz ⟨z0, z1, z2, z3⟩; go_simp) ?_
  try simp only [List.getElem_toArray, List.getElem_cons_succ, List.getElem_cons_zero, Act.put, List.setIfInBounds_toArray, List.set_cons_zero, List.set_cons_succ]
  refine wpAnyY_takeF 4 (.pointer (some ⟨g, 1, none⟩)) rfl (by kernel_rfl) (fun _ _ _ h => hP _ _ _ _ (by rfl) h) rfl (by intro wz; go_simp; try rfl) ?_
  try simp only [List.getElem_toArray, List.getElem_cons_succ, List.getElem_cons_zero, Act.put, List.setIfInBounds_toArray, List.set_cons_zero, List.set_cons_succ]
  refine wpAnyY_take [14] 5 (.int .i64 F0) rfl (by kernel_rfl) (fun _ _ _ h => hP _ _ _ _ (by rfl) h) SS rfl (by rintro wz ⟨z0, z1, z2, z3⟩; go_simp) ?_
  try simp only [List.getElem_toArray, List.getElem_cons_succ, List.getElem_cons_zero, Act.put, List.setIfInBounds_toArray, List.set_cons_zero, List.set_cons_succ]
  refine wpAnyY_takeF 7 (.pointer (some ⟨g, 2, none⟩)) rfl (by kernel_rfl) (fun _ _ _ h => hP _ _ _ _ (by rfl) h) rfl (by intro wz; go_simp; try rfl) ?_
  try simp only [List.getElem_toArray, List.getElem_cons_succ, List.getElem_cons_zero, Act.put, List.setIfInBounds_toArray, List.set_cons_zero, List.set_cons_succ]
  refine wpAnyY_take [14] 8 (.int .i64 H0) rfl (by kernel_rfl) (fun _ _ _ h => hP _ _ _ _ (by rfl) h) SS rfl (by rintro wz ⟨z0, z1, z2, z3⟩; go_simp) ?_
  try simp only [List.getElem_toArray, List.getElem_cons_succ, List.getElem_cons_zero, Act.put, List.setIfInBounds_toArray, List.set_cons_zero, List.set_cons_succ]
  refine wpAnyY_takeF 10 (.pointer (some ⟨g, 3, none⟩)) rfl (by kernel_rfl) (fun _ _ _ h => hP _ _ _ _ (by rfl) h) rfl (by intro wz; go_simp; try rfl) ?_
  try simp only [List.getElem_toArray, List.getElem_cons_succ, List.getElem_cons_zero, Act.put, List.setIfInBounds_toArray, List.set_cons_zero, List.set_cons_succ]
  refine wpAnyY_take [14] 11 (.int .i64 M0) rfl (by kernel_rfl) (fun _ _ _ h => hP _ _ _ _ (by rfl) h) SS rfl (by rintro wz ⟨z0, z1, z2, z3⟩; go_simp) ?_
  try simp only [List.getElem_toArray, List.getElem_cons_succ, List.getElem_cons_zero, Act.put, List.setIfInBounds_toArray, List.set_cons_zero, List.set_cons_succ]
  refine wpAnyY_oneB 2 rfl (by kernel_rfl) (fun KK hKK => ?_)
  go_simp
  go_at_call 13
  refine (pickT_any L0 40 wd hL0.1 hL0.2 (by decide) (by decide)).mono ?_
  rintro e wz ⟨l, hl, rfl, hw⟩
  have hw := hw.symm
  subst hw
  dsimp only
  refine hKK _ _ (fun h _ => h) ?_
  try simp only [List.getElem_toArray, List.getElem_cons_succ, List.getElem_cons_zero, Act.put, List.setIfInBounds_toArray, List.set_cons_zero, List.set_cons_succ]
  refine wpAnyY_takeF 3 (.int .i64 ((1 + l : Nat) : Int)) rfl (by kernel_rfl) (fun _ _ _ h => hP _ _ _ _ (by rfl) h) rfl (by intro wz; go_simp; rw [IntKind.wrap_i64] <;> omega) ?_
  try simp only [List.getElem_toArray, List.getElem_cons_succ, List.getElem_cons_zero, Act.put, List.setIfInBounds_toArray, List.set_cons_zero, List.set_cons_succ]
  refine wpAnyY_oneB 6 rfl (by kernel_rfl) (fun KK hKK => ?_)
  go_simp
  go_at_call 13
  refine (pickT_any F0 4 wd hF0.1 hF0.2 (by decide) (by decide)).mono ?_
  rintro e wz ⟨f, hf, rfl, hw⟩
  have hw := hw.symm
  subst hw
  dsimp only
  refine hKK _ _ (fun h _ => h) ?_
  try simp only [List.getElem_toArray, List.getElem_cons_succ, List.getElem_cons_zero, Act.put, List.setIfInBounds_toArray, List.set_cons_zero, List.set_cons_succ]
  refine wpAnyY_oneB 9 rfl (by kernel_rfl) (fun KK hKK => ?_)
  go_simp
  go_at_call 13
  refine (pickT_any H0 8 wd hH0.1 hH0.2 (by decide) (by decide)).mono ?_
  rintro e wz ⟨h, hh, rfl, hw⟩
  have hw := hw.symm
  subst hw
  dsimp only
  refine hKK _ _ (fun h _ => h) ?_
  try simp only [List.getElem_toArray, List.getElem_cons_succ, List.getElem_cons_zero, Act.put, List.setIfInBounds_toArray, List.set_cons_zero, List.set_cons_succ]
  refine wpAnyY_oneB 12 rfl (by kernel_rfl) (fun KK hKK => ?_)
  go_simp
  go_at_call 13
  refine (pickT_any M0 9 wd hM0.1 hM0.2 (by decide) (by decide)).mono ?_
  rintro e wz ⟨m, hm, rfl, hw⟩
  have hw := hw.symm
  subst hw
  dsimp only
  refine hKK _ _ (fun h _ => h) ?_
  try simp only [List.getElem_toArray, List.getElem_cons_succ, List.getElem_cons_zero, Act.put, List.setIfInBounds_toArray, List.set_cons_zero, List.set_cons_succ]
  refine wpAnyY_takeF 13 (.agg #[.int .i64 ((1 + l : Nat) : Int), .int .i64 (f : Nat), .int .i64 (h : Nat), .int .i64 (m : Nat)]) rfl (by kernel_rfl) (fun _ _ _ h => hP _ _ _ _ (by rfl) h) rfl (by intro wz; go_simp; try rfl) ?_
  try simp only [List.getElem_toArray, List.getElem_cons_succ, List.getElem_cons_zero, Act.put, List.setIfInBounds_toArray, List.set_cons_zero, List.set_cons_succ]
  refine wpAnyY_oneB 14 rfl (by kernel_rfl) (fun KK hKK => ?_)
  refine step_of_listT rfl ?_
  refine wpList_stX _ rfl _ _ _ rfl g _ #[.int .i64 ((1 + l : Nat) : Int), .int .i64 (f : Nat), .int .i64 (h : Nat), .int .i64 (m : Nat)] rfl rfl bd Try.info_rl rfl (by simp [Value.oneCell']) ?_
  intro wS bS gS
  show KK _ wS
  refine hKK _ _ (fun _ h => absurd (by decide) h) ?_
  try simp only [List.getElem_toArray, List.getElem_cons_succ, List.getElem_cons_zero, Act.put, List.setIfInBounds_toArray, List.set_cons_zero, List.set_cons_succ]
  refine wpAnyY_doneB (by kernel_rfl) ?_ _
  exact HQ.out l f h m wS _ _ _ _ _ _ _ _ _ _ _ _ _ _ (by omega) (by omega) (by omega) (by omega) bS (grown_trans (grown_weak Gd _) gS)

theorem two_own (w : World) (u v : Value) (lo : Nat) (hlo : lo ≤ w.heap.size) (h1 : u.oneCell' = true := by rfl) (h2 : v.oneCell' = true := by rfl) : AnsX 25 (w.alloc (.cells #[u, v] 25)) lo (some ⟨w.heap.size, 0, none⟩) 2 2 [u, v] := by
  have hb := heap_alloc_new w (.cells #[u, v] 25)
  refine ⟨⟨rfl, .inr ⟨w.heap.size, 2, #[u, v], rfl, Nat.zero_le _, hb, by omega, by unfold maxLen; omega, rfl, rfl⟩⟩, fun x hx => ?_, fun g hg => ?_⟩
  · rcases List.mem_cons.1 hx with rfl | hx
    · exact h1
    · rw [List.mem_singleton.1 hx]; exact h2
  · have e : w.heap.size = g := Option.some.inj hg
    omega
set_option maxHeartbeats 16000000 in
theorem sl_2 {u0 u2 u3 u4 u5 u7 u8 u9 u10 u11 u12 u13 u14 u15 u16 u17 u18 u19 u20 u21 u22 u23 u24 u25 u26 u27 u28 u29 u30 u31 u32 u33 u34 u35 u36 u37 u38 u39 u40 u41 u42 u43 u44 u45 u46 u47 u48 u49 u50 u51 u52 u53 u54 u55 u56 u57 u58 u59 u60 u61 u62 u63 u64 u65 u66 u67 u68 u69 u70 u71 u72 u73 u74 u75 u76 u77 u78 u79 u80 u81 u82 u83 u84 u85 u86 u87 u88 u89 u90 u91 u92 u93 u94 u95 u96 u97 u98 u99 u100 u101 u102 u103 u104 u105 u106 u107 u108 u109 u110 u111 u112 u113 u114 u115 u116 u117 u118 u119 u120 u121 u122 u123 u124 u125 u126 u127 u128 u129 u130 u131 u132 u133 u134 u135 u136 u137 u138 u139 u140 u141 u142 u143 u144 u145 u146 u147 u148 u149 u150 u151 u152 u153 u154 u155 u156 u157 u158 u159 u160 u161 u162 u163 u164 u165 u166 u167 u168 u169 u170 u171 : Value} (Q : Exit → Act → World → Prop) (w : World) (g L np cp : Nat) (ap : Option Addr) (V : List Value) (Ps : List (List Nat)) (hL1 : 1 ≤ L) (hL : L ≤ 40) (cL : w.cell? ⟨g, 0, none⟩ = some (.int .i64 (L : Nat))) (hP : PsX w ap np cp V Ps) (hnp : (2 + np) * 24 ≤ 150000000000000)
    (hP0 : ∀ c a a' w, a.defers = a'.defers → Q (.panic c) a w → Q (.panic c) a' w)
    (hQ : ∀ a7 n7 c7 a8 c8 V8 ds W z43 z44 z45 z46 z47 z48 z49 z50 z51 z52 z53 z54, Ans W w.heap.size a7 n7 c7 (catF ds) → AnsX 25 W w.heap.size a8 ds.length c8 V8 → PiR W V8 ds w.heap.size (fun k => (Value.slice a7 n7 c7).ownBlock = some k) → (∀ d, d ∈ ds → d.length = L ∧ IsB d) → 2 ≤ ds.length ∧ ds.length ≤ 20 → Frm (fun _ => False) w W → Q .normal (Act.mk (List.toArray (u0 :: (.slice ap np cp) :: u2 :: u3 :: u4 :: u5 :: (.pointer (some ⟨g, 0, none⟩)) :: u7 :: u8 :: u9 :: u10 :: u11 :: u12 :: (.slice a7 n7 c7) :: (.slice a8 ds.length c8) :: (.bool true) :: u16 :: u17 :: u18 :: u19 :: u20 :: u21 :: u22 :: u23 :: u24 :: u25 :: u26 :: u27 :: u28 :: u29 :: u30 :: u31 :: u32 :: u33 :: u34 :: u35 :: u36 :: u37 :: u38 :: u39 :: u40 :: u41 :: u42 :: z43 :: z44 :: z45 :: z46 :: z47 :: z48 :: z49 :: z50 :: z51 :: z52 :: z53 :: z54 :: u55 :: u56 :: u57 :: u58 :: u59 :: u60 :: u61 :: u62 :: u63 :: u64 :: u65 :: u66 :: u67 :: u68 :: u69 :: u70 :: u71 :: u72 :: u73 :: u74 :: u75 :: u76 :: u77 :: u78 :: u79 :: u80 :: u81 :: u82 :: u83 :: u84 :: u85 :: u86 :: u87 :: u88 :: u89 :: u90 :: u91 :: u92 :: u93 :: u94 :: u95 :: u96 :: u97 :: u98 :: u99 :: u100 :: u101 :: u102 :: u103 :: u104 :: u105 :: u106 :: u107 :: u108 :: u109 :: u110 :: u111 :: u112 :: u113 :: u114 :: u115 :: u116 :: u117 :: u118 :: u119 :: u120 :: u121 :: u122 :: u123 :: u124 :: u125 :: u126 :: u127 :: u128 :: u129 :: u130 :: u131 :: u132 :: u133 :: u134 :: u135 :: u136 :: u137 :: u138 :: u139 :: u140 :: u141 :: u142 :: u143 :: u144 :: u145 :: u146 :: u147 :: u148 :: u149 :: u150 :: u151 :: u152 :: u153 :: u154 :: u155 :: u156 :: u157 :: u158 :: u159 :: u160 :: u161 :: u162 :: u163 :: u164 :: u165 :: u166 :: u167 :: u168 :: u169 :: u170 :: u171 :: [])) []) W) :
    Code.wp Try.prog (headT (tailR 2 (Try.f6.body.getD .skip))) Q (Act.mk (List.toArray (u0 :: (.slice ap np cp) :: u2 :: u3 :: u4 :: u5 :: (.pointer (some ⟨g, 0, none⟩)) :: u7 :: u8 :: u9 :: u10 :: u11 :: u12 :: u13 :: u14 :: u15 :: u16 :: u17 :: u18 :: u19 :: u20 :: u21 :: u22 :: u23 :: u24 :: u25 :: u26 :: u27 :: u28 :: u29 :: u30 :: u31 :: u32 :: u33 :: u34 :: u35 :: u36 :: u37 :: u38 :: u39 :: u40 :: u41 :: u42 :: u43 :: u44 :: u45 :: u46 :: u47 :: u48 :: u49 :: u50 :: u51 :: u52 :: u53 :: u54 :: u55 :: u56 :: u57 :: u58 :: u59 :: u60 :: u61 :: u62 :: u63 :: u64 :: u65 :: u66 :: u67 :: u68 :: u69 :: u70 :: u71 :: u72 :: u73 :: u74 :: u75 :: u76 :: u77 :: u78 :: u79 :: u80 :: u81 :: u82 :: u83 :: u84 :: u85 :: u86 :: u87 :: u88 :: u89 :: u90 :: u91 :: u92 :: u93 :: u94 :: u95 :: u96 :: u97 :: u98 :: u99 :: u100 :: u101 :: u102 :: u103 :: u104 :: u105 :: u106 :: u107 :: u108 :: u109 :: u110 :: u111 :: u112 :: u113 :: u114 :: u115 :: u116 :: u117 :: u118 :: u119 :: u120 :: u121 :: u122 :: u123 :: u124 :: u125 :: u126 :: u127 :: u128 :: u129 :: u130 :: u131 :: u132 :: u133 :: u134 :: u135 :: u136 :: u137 :: u138 :: u139 :: u140 :: u141 :: u142 :: u143 :: u144 :: u145 :: u146 :: u147 :: u148 :: u149 :: u150 :: u151 :: u152 :: u153 :: u154 :: u155 :: u156 :: u157 :: u158 :: u159 :: u160 :: u161 :: u162 :: u163 :: u164 :: u165 :: u166 :: u167 :: u168 :: u169 :: u170 :: u171 :: [])) []) w := by
  conv => enter [2]; whnf
  have HQ : Hid _ := hQ
  clear hQ
  have FD : Frm (fun _ => False) w w.drew := Frm.of (grown_drew w none) (fun k e _ => by cases e)
  have hlg : g < w.heap.size := World.block_lt_of_cell? w _ cL
  have SS : w.drew.cell? ⟨g, 0, none⟩ = some (.int .i64 (L : Nat)) := cell_frm cL FD (fun h => h)
  have hzd := FD.size
  refine wp_regionM (fun wz => wz.cell? ⟨g, 0, none⟩ = some (.int .i64 (L : Nat))) [] #[false, false, false, false, false, false, false, false, false, false, false, false, false, false, false] rfl (by kernel_rfl) ?_
  generalize w.drew = wd at *
  refine wpAnyY_takeF 3 (.slice ap np cp) rfl (by kernel_rfl) (fun _ _ _ h => hP0 _ _ _ _ (by rfl) h) rfl (by intro wz; go_simp; try rfl) ?_
  try simp only [List.getElem_toArray, List.getElem_cons_succ, List.getElem_cons_zero, Act.put, List.setIfInBounds_toArray, List.set_cons_zero, List.set_cons_succ]
  refine wpAnyY_takeF 5 (.pointer (some ⟨g, 0, none⟩)) rfl (by kernel_rfl) (fun _ _ _ h => hP0 _ _ _ _ (by rfl) h) rfl (by intro wz; go_simp; try rfl) ?_
  try simp only [List.getElem_toArray, List.getElem_cons_succ, List.getElem_cons_zero, Act.put, List.setIfInBounds_toArray, List.set_cons_zero, List.set_cons_succ]
  refine wpAnyY_take [] 6 (.int .i64 (L : Nat)) rfl (by kernel_rfl) (fun _ _ _ h => hP0 _ _ _ _ (by rfl) h) SS rfl (by intro wz z0; go_simp) ?_
  try simp only [List.getElem_toArray, List.getElem_cons_succ, List.getElem_cons_zero, Act.put, List.setIfInBounds_toArray, List.set_cons_zero, List.set_cons_succ]
  refine wpAnyY_twoB 0 1 rfl rfl (by kernel_rfl) (fun KK hKK => ?_) (fun KK hKK => ?_)
  · go_simp
    have FA : Frm (fun _ => False) wd (wd.alloc (.cells #[.int .u8 1] 5)) := Frm.of (World.grownBy_alloc wd _ none) (fun k e _ => by cases e)
    refine hKK _ _ (fun h _ => cell_frm h FA (fun h => h)) ?_
    try simp only [List.getElem_toArray, List.getElem_cons_succ, List.getElem_cons_zero, Act.put, List.setIfInBounds_toArray, List.set_cons_zero, List.set_cons_succ]
    have rA := rd_oneT wd 1 (by decide)
    have FDA := FD.trans FA (fun _ _ h => h)
    have hzA : wd.heap.size + 1 ≤ (wd.alloc (.cells #[.int .u8 1] 5)).heap.size := by simp
    have hsA : (wd.alloc (.cells #[.int .u8 1] 5)).heap.size = wd.heap.size + 1 := by simp
    have HsA : Hid _ := hsA
    clear hsA
    replace rA : Rd (wd.alloc (.cells #[.int .u8 1] 5)) (some ⟨wd.heap.size, 0, none⟩) 1 1 [1] := rA
    generalize wd.alloc (.cells #[.int .u8 1] 5) = wA at *
    refine wpAnyY_oneB 1 rfl (by kernel_rfl) (fun KK hKK => ?_)
    go_simp
    have FB : Frm (fun _ => False) wA (wA.alloc (.cells #[.int .u8 2] 5)) := Frm.of (World.grownBy_alloc wA _ none) (fun k e _ => by cases e)
    refine hKK _ _ (fun h _ => cell_frm h FB (fun h => h)) ?_
    try simp only [List.getElem_toArray, List.getElem_cons_succ, List.getElem_cons_zero, Act.put, List.setIfInBounds_toArray, List.set_cons_zero, List.set_cons_succ]
    have rB : Rd (wA.alloc (.cells #[.int .u8 2] 5)) (some ⟨wA.heap.size, 0, none⟩) 1 1 [2] := rd_oneT wA 2 (by decide)
    have rA2 := Rd.keepF (p := fun _ => False) rA FB
    have hzB : wA.heap.size + 1 ≤ (wA.alloc (.cells #[.int .u8 2] 5)).heap.size := by simp
    replace FD := FDA.trans FB (fun _ _ h => h)
    generalize wA.alloc (.cells #[.int .u8 2] 5) = wB at *
    refine wpAnyY_oneB 2 rfl (by kernel_rfl) (fun KK hKK => ?_)
    go_simp
    have F3 : Frm (fun _ => False) wB (wB.alloc (.cells #[.slice (some ⟨wd.heap.size, 0, none⟩) 1 1, .slice (some ⟨wA.heap.size, 0, none⟩) 1 1] 25)) := Frm.of (World.grownBy_alloc wB _ none) (fun k e _ => by cases e)
    refine hKK _ _ (fun h _ => cell_frm h F3 (fun h => h)) ?_
    try simp only [List.getElem_toArray, List.getElem_cons_succ, List.getElem_cons_zero, Act.put, List.setIfInBounds_toArray, List.set_cons_zero, List.set_cons_succ]
    have hX3 : AnsX 25 (wB.alloc (.cells #[.slice (some ⟨wd.heap.size, 0, none⟩) 1 1, .slice (some ⟨wA.heap.size, 0, none⟩) 1 1] 25)) w.heap.size (some ⟨wB.heap.size, 0, none⟩) 2 2 [.slice (some ⟨wd.heap.size, 0, none⟩) 1 1, .slice (some ⟨wA.heap.size, 0, none⟩) 1 1] := two_own wB _ _ _ (by omega)
    have r03 := Rd.keepF (p := fun _ => False) rA2 F3
    have r13 := Rd.keepF (p := fun _ => False) rB F3
    have FW := FD.trans F3 (fun _ _ h => h)
    have hP3 := hP.keepF FW
    have hz3 := FW.size
    generalize (wB.alloc (.cells #[.slice (some ⟨wd.heap.size, 0, none⟩) 1 1, .slice (some ⟨wA.heap.size, 0, none⟩) 1 1] 25)) = w3 at *
    refine wpAnyY_oneB 4 rfl (by kernel_rfl) (fun KK hKK => ?_)
    refine step_of_listT rfl ?_
    refine wpList_apB2 rfl _ _ rfl (some ⟨wB.heap.size, 0, none⟩) 2 2 w.heap.size _ rfl hX3 hz3 ap np cp V rfl hP3.rd (by omega) ?_
    intro a4 c4 w4 hX4 g4
    show KK _ w4
    have F4 : Frm (fun k => k = wB.heap.size) w3 w4 := Frm.of g4 (fun k e _ => by
      have e2 : wB.heap.size = k := Option.some.inj e
      exact e2.symm)
    have cL4 : w4.cell? ⟨g, 0, none⟩ = some (.int .i64 (L : Nat)) := cell_frm (cell_frm cL FW (fun h => h)) F4 (fun h => by omega)
    refine hKK _ _ (fun _ _ => cL4) ?_
    try simp only [List.getElem_toArray, List.getElem_cons_succ, List.getElem_cons_zero, Act.put, List.setIfInBounds_toArray, List.set_cons_zero, List.set_cons_succ]
    have FX : Frm (fun _ => False) w w4 := FW.trans F4 (fun k hk h => by omega)
    have r04 := rd_frm r03 F4 (fun h => by omega)
    have r14 := rd_frm r13 F4 (fun h => by omega)
    have hP4 := hP.keepF FX
    have hPs : RdPs w4 a4 (2 + np) c4 ([1] :: [2] :: Ps) := hX4.pieces (by simp [hP.len]) (fun i v B h1 h2 => by
      match i with
      | 0 => cases h1; cases h2; exact ⟨_, _, _, rfl, r04⟩
      | 1 => cases h1; cases h2; exact ⟨_, _, _, rfl, r14⟩
      | i + 2 => exact hP4.at' i v B h1 h2)
    have hRo := rows_any a4 (2 + np) c4 ([1] :: [2] :: Ps) L w4 hPs hL1 (by omega) (by omega)
    refine wpAnyY_oneB 7 rfl (by kernel_rfl) (fun KK hKK => ?_)
    go_simp
    go_at_call 14
    refine hRo.mono ?_
    rintro e w5 ⟨a7, n7, c7, a8, c8, V8, ds, rfl, hA, hX, hR, hd, hdl, g5⟩
    have HDL : Hid _ := hdl
    clear hdl
    have F5 : Frm (fun _ => False) w4 w5 := Frm.of g5 (fun k e _ => by cases e)
    dsimp only
    refine hKK _ _ (fun h _ => cell_frm h F5 (fun h => h)) ?_
    try simp only [List.getElem_toArray, List.getElem_cons_succ, List.getElem_cons_zero, Act.put, List.setIfInBounds_toArray, List.set_cons_zero, List.set_cons_succ]
    refine wpAnyY_takeF 8 (.tuple #[.slice a7 n7 c7, .slice a8 ds.length c8, .bool true]) rfl (by kernel_rfl) (fun _ _ _ h => hP0 _ _ _ _ (by rfl) h) rfl (by intro wz; go_simp; try rfl) ?_
    try simp only [List.getElem_toArray, List.getElem_cons_succ, List.getElem_cons_zero, Act.put, List.setIfInBounds_toArray, List.set_cons_zero, List.set_cons_succ]
    refine wpAnyY_takeF 9 (.slice a7 n7 c7) rfl (by kernel_rfl) (fun _ _ _ h => hP0 _ _ _ _ (by rfl) h) rfl (by intro wz; go_simp; try rfl) ?_
    try simp only [List.getElem_toArray, List.getElem_cons_succ, List.getElem_cons_zero, Act.put, List.setIfInBounds_toArray, List.set_cons_zero, List.set_cons_succ]
    refine wpAnyY_takeF 10 (.slice a8 ds.length c8) rfl (by kernel_rfl) (fun _ _ _ h => hP0 _ _ _ _ (by rfl) h) rfl (by intro wz; go_simp; try rfl) ?_
    try simp only [List.getElem_toArray, List.getElem_cons_succ, List.getElem_cons_zero, Act.put, List.setIfInBounds_toArray, List.set_cons_zero, List.set_cons_succ]
    refine wpAnyY_takeF 11 (.bool true) rfl (by kernel_rfl) (fun _ _ _ h => hP0 _ _ _ _ (by rfl) h) rfl (by intro wz; go_simp; try rfl) ?_
    try simp only [List.getElem_toArray, List.getElem_cons_succ, List.getElem_cons_zero, Act.put, List.setIfInBounds_toArray, List.set_cons_zero, List.set_cons_succ]
    refine wpAnyY_oneB 12 rfl (by kernel_rfl) (fun KK hKK => ?_)
    go_simp
    refine hKK _ _ (fun h _ => h) ?_
    try simp only [List.getElem_toArray, List.getElem_cons_succ, List.getElem_cons_zero, Act.put, List.setIfInBounds_toArray, List.set_cons_zero, List.set_cons_succ]
    refine wpAnyY_oneB 13 rfl (by kernel_rfl) (fun KK hKK => ?_)
    go_simp
    refine hKK _ _ (fun h _ => h) ?_
    try simp only [List.getElem_toArray, List.getElem_cons_succ, List.getElem_cons_zero, Act.put, List.setIfInBounds_toArray, List.set_cons_zero, List.set_cons_succ]
    refine wpAnyY_oneB 14 rfl (by kernel_rfl) (fun KK hKK => ?_)
    go_simp
    refine hKK _ _ (fun h _ => h) ?_
    try simp only [List.getElem_toArray, List.getElem_cons_succ, List.getElem_cons_zero, Act.put, List.setIfInBounds_toArray, List.set_cons_zero, List.set_cons_succ]
    refine wpAnyY_doneB (by kernel_rfl) ?_ _
    have hz4 := FX.size
    exact HQ.out a7 n7 c7 a8 c8 V8 ds w5 _ _ _ _ _ _ _ _ _ _ _ _ (hA.wide hz4) (hX.low hz4) ⟨hR.len, fun i v B h1 h2 => by
      obtain ⟨g, c, e, h3, h4, h5⟩ := hR.at' i v B h1 h2
      exact ⟨g, c, e, h3, by omega, h5⟩⟩ hd (by rw [HDL.out]; omega) (FX.trans F5 (fun _ _ h => h))
  · go_simp
    have FA : Frm (fun _ => False) wd (wd.alloc (.cells #[.int .u8 2] 5)) := Frm.of (World.grownBy_alloc wd _ none) (fun k e _ => by cases e)
    refine hKK _ _ (fun h _ => cell_frm h FA (fun h => h)) ?_
    try simp only [List.getElem_toArray, List.getElem_cons_succ, List.getElem_cons_zero, Act.put, List.setIfInBounds_toArray, List.set_cons_zero, List.set_cons_succ]
    have rA := rd_oneT wd 2 (by decide)
    have FDA := FD.trans FA (fun _ _ h => h)
    have hzA : wd.heap.size + 1 ≤ (wd.alloc (.cells #[.int .u8 2] 5)).heap.size := by simp
    have hsA : (wd.alloc (.cells #[.int .u8 2] 5)).heap.size = wd.heap.size + 1 := by simp
    have HsA : Hid _ := hsA
    clear hsA
    replace rA : Rd (wd.alloc (.cells #[.int .u8 2] 5)) (some ⟨wd.heap.size, 0, none⟩) 1 1 [2] := rA
    generalize wd.alloc (.cells #[.int .u8 2] 5) = wA at *
    refine wpAnyY_oneB 0 rfl (by kernel_rfl) (fun KK hKK => ?_)
    go_simp
    have FB : Frm (fun _ => False) wA (wA.alloc (.cells #[.int .u8 1] 5)) := Frm.of (World.grownBy_alloc wA _ none) (fun k e _ => by cases e)
    refine hKK _ _ (fun h _ => cell_frm h FB (fun h => h)) ?_
    try simp only [List.getElem_toArray, List.getElem_cons_succ, List.getElem_cons_zero, Act.put, List.setIfInBounds_toArray, List.set_cons_zero, List.set_cons_succ]
    have rB : Rd (wA.alloc (.cells #[.int .u8 1] 5)) (some ⟨wA.heap.size, 0, none⟩) 1 1 [1] := rd_oneT wA 1 (by decide)
    have rA2 := Rd.keepF (p := fun _ => False) rA FB
    have hzB : wA.heap.size + 1 ≤ (wA.alloc (.cells #[.int .u8 1] 5)).heap.size := by simp
    replace FD := FDA.trans FB (fun _ _ h => h)
    generalize wA.alloc (.cells #[.int .u8 1] 5) = wB at *
    refine wpAnyY_oneB 2 rfl (by kernel_rfl) (fun KK hKK => ?_)
    go_simp
    have F3 : Frm (fun _ => False) wB (wB.alloc (.cells #[.slice (some ⟨wA.heap.size, 0, none⟩) 1 1, .slice (some ⟨wd.heap.size, 0, none⟩) 1 1] 25)) := Frm.of (World.grownBy_alloc wB _ none) (fun k e _ => by cases e)
    refine hKK _ _ (fun h _ => cell_frm h F3 (fun h => h)) ?_
    try simp only [List.getElem_toArray, List.getElem_cons_succ, List.getElem_cons_zero, Act.put, List.setIfInBounds_toArray, List.set_cons_zero, List.set_cons_succ]
    have hX3 : AnsX 25 (wB.alloc (.cells #[.slice (some ⟨wA.heap.size, 0, none⟩) 1 1, .slice (some ⟨wd.heap.size, 0, none⟩) 1 1] 25)) w.heap.size (some ⟨wB.heap.size, 0, none⟩) 2 2 [.slice (some ⟨wA.heap.size, 0, none⟩) 1 1, .slice (some ⟨wd.heap.size, 0, none⟩) 1 1] := two_own wB _ _ _ (by omega)
    have r03 := Rd.keepF (p := fun _ => False) rB F3
    have r13 := Rd.keepF (p := fun _ => False) rA2 F3
    have FW := FD.trans F3 (fun _ _ h => h)
    have hP3 := hP.keepF FW
    have hz3 := FW.size
    generalize (wB.alloc (.cells #[.slice (some ⟨wA.heap.size, 0, none⟩) 1 1, .slice (some ⟨wd.heap.size, 0, none⟩) 1 1] 25)) = w3 at *
    refine wpAnyY_oneB 4 rfl (by kernel_rfl) (fun KK hKK => ?_)
    refine step_of_listT rfl ?_
    refine wpList_apB2 rfl _ _ rfl (some ⟨wB.heap.size, 0, none⟩) 2 2 w.heap.size _ rfl hX3 hz3 ap np cp V rfl hP3.rd (by omega) ?_
    intro a4 c4 w4 hX4 g4
    show KK _ w4
    have F4 : Frm (fun k => k = wB.heap.size) w3 w4 := Frm.of g4 (fun k e _ => by
      have e2 : wB.heap.size = k := Option.some.inj e
      exact e2.symm)
    have cL4 : w4.cell? ⟨g, 0, none⟩ = some (.int .i64 (L : Nat)) := cell_frm (cell_frm cL FW (fun h => h)) F4 (fun h => by omega)
    refine hKK _ _ (fun _ _ => cL4) ?_
    try simp only [List.getElem_toArray, List.getElem_cons_succ, List.getElem_cons_zero, Act.put, List.setIfInBounds_toArray, List.set_cons_zero, List.set_cons_succ]
    have FX : Frm (fun _ => False) w w4 := FW.trans F4 (fun k hk h => by omega)
    have r04 := rd_frm r03 F4 (fun h => by omega)
    have r14 := rd_frm r13 F4 (fun h => by omega)
    have hP4 := hP.keepF FX
    have hPs : RdPs w4 a4 (2 + np) c4 ([1] :: [2] :: Ps) := hX4.pieces (by simp [hP.len]) (fun i v B h1 h2 => by
      match i with
      | 0 => cases h1; cases h2; exact ⟨_, _, _, rfl, r04⟩
      | 1 => cases h1; cases h2; exact ⟨_, _, _, rfl, r14⟩
      | i + 2 => exact hP4.at' i v B h1 h2)
    have hRo := rows_any a4 (2 + np) c4 ([1] :: [2] :: Ps) L w4 hPs hL1 (by omega) (by omega)
    refine wpAnyY_oneB 7 rfl (by kernel_rfl) (fun KK hKK => ?_)
    go_simp
    go_at_call 14
    refine hRo.mono ?_
    rintro e w5 ⟨a7, n7, c7, a8, c8, V8, ds, rfl, hA, hX, hR, hd, hdl, g5⟩
    have HDL : Hid _ := hdl
    clear hdl
    have F5 : Frm (fun _ => False) w4 w5 := Frm.of g5 (fun k e _ => by cases e)
    dsimp only
    refine hKK _ _ (fun h _ => cell_frm h F5 (fun h => h)) ?_
    try simp only [List.getElem_toArray, List.getElem_cons_succ, List.getElem_cons_zero, Act.put, List.setIfInBounds_toArray, List.set_cons_zero, List.set_cons_succ]
    refine wpAnyY_takeF 8 (.tuple #[.slice a7 n7 c7, .slice a8 ds.length c8, .bool true]) rfl (by kernel_rfl) (fun _ _ _ h => hP0 _ _ _ _ (by rfl) h) rfl (by intro wz; go_simp; try rfl) ?_
    try simp only [List.getElem_toArray, List.getElem_cons_succ, List.getElem_cons_zero, Act.put, List.setIfInBounds_toArray, List.set_cons_zero, List.set_cons_succ]
    refine wpAnyY_takeF 9 (.slice a7 n7 c7) rfl (by kernel_rfl) (fun _ _ _ h => hP0 _ _ _ _ (by rfl) h) rfl (by intro wz; go_simp; try rfl) ?_
    try simp only [List.getElem_toArray, List.getElem_cons_succ, List.getElem_cons_zero, Act.put, List.setIfInBounds_toArray, List.set_cons_zero, List.set_cons_succ]
    refine wpAnyY_takeF 10 (.slice a8 ds.length c8) rfl (by kernel_rfl) (fun _ _ _ h => hP0 _ _ _ _ (by rfl) h) rfl (by intro wz; go_simp; try rfl) ?_
    try simp only [List.getElem_toArray, List.getElem_cons_succ, List.getElem_cons_zero, Act.put, List.setIfInBounds_toArray, List.set_cons_zero, List.set_cons_succ]
    refine wpAnyY_takeF 11 (.bool true) rfl (by kernel_rfl) (fun _ _ _ h => hP0 _ _ _ _ (by rfl) h) rfl (by intro wz; go_simp; try rfl) ?_
    try simp only [List.getElem_toArray, List.getElem_cons_succ, List.getElem_cons_zero, Act.put, List.setIfInBounds_toArray, List.set_cons_zero, List.set_cons_succ]
    refine wpAnyY_oneB 12 rfl (by kernel_rfl) (fun KK hKK => ?_)
    go_simp
    refine hKK _ _ (fun h _ => h) ?_
    try simp only [List.getElem_toArray, List.getElem_cons_succ, List.getElem_cons_zero, Act.put, List.setIfInBounds_toArray, List.set_cons_zero, List.set_cons_succ]
    refine wpAnyY_oneB 13 rfl (by kernel_rfl) (fun KK hKK => ?_)
    go_simp
    refine hKK _ _ (fun h _ => h) ?_
    try simp only [List.getElem_toArray, List.getElem_cons_succ, List.getElem_cons_zero, Act.put, List.setIfInBounds_toArray, List.set_cons_zero, List.set_cons_succ]
    refine wpAnyY_oneB 14 rfl (by kernel_rfl) (fun KK hKK => ?_)
    go_simp
    refine hKK _ _ (fun h _ => h) ?_
    try simp only [List.getElem_toArray, List.getElem_cons_succ, List.getElem_cons_zero, Act.put, List.setIfInBounds_toArray, List.set_cons_zero, List.set_cons_succ]
    refine wpAnyY_doneB (by kernel_rfl) ?_ _
    have hz4 := FX.size
    exact HQ.out a7 n7 c7 a8 c8 V8 ds w5 _ _ _ _ _ _ _ _ _ _ _ _ (hA.wide hz4) (hX.low hz4) ⟨hR.len, fun i v B h1 h2 => by
      obtain ⟨g, c, e, h3, h4, h5⟩ := hR.at' i v B h1 h2
      exact ⟨g, c, e, h3, by omega, h5⟩⟩ hd (by rw [HDL.out]; omega) (FX.trans F5 (fun _ _ h => h))
end Go.Proofs.Ythdjpbfknbafgaa
