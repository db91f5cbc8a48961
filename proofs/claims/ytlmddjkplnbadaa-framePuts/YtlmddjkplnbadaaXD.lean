import Derived.Test.YtlmddjkplnbadaaXC
namespace Go.Proofs.Ytlmddjkplnbadaa
open Go.RowKit
set_option maxRecDepth 100000
set_option linter.unusedVariables false
set_option linter.unusedSimpArgs false
theorem step_joinX {w : World} {ops : Array Oper} {o : Oper} {a : Act} {K : Act → World → Prop} {Q : Exit → Act → World → Prop} {E : Prop} (hg : o.guard = none) (s x : Operand)
    (hop : o.op = Op.call { callee := .builtin .append, args := #[s, x], argTypes := #[22, 22] }) (ao : Option Addr) (m co lo : Nat) (D : List Nat) (hs : a.eval s = .slice ao m co)
    (hA : Ans w lo ao m co D) (hlo : lo ≤ w.heap.size) (ad : Addr) (nx cx : Nat) (X : List Nat) (hx : a.eval x = .slice (some ad) nx cx) (hR : Rd w (some ad) nx cx X) (h0 : 0 < nx) (hb : m + nx ≤ 140737488355328)
    (hK : ∀ a' c' w', Ans w' lo a' (m + nx) c' (D ++ X) → w.grownBy w' (Value.slice ao m co).ownBlock → K (a.put o.dst (.slice a' (m + nx) c')) w') :
    if Region.wanted o (yielded ops a.tmps) = true then Oper.wp Try.prog o a w K Q else E := by
  have hw : Region.wanted o (yielded ops a.tmps) = true := by simp [Region.wanted, hg]
  rw [if_pos hw]
  obtain ⟨i0, hi, hz0, hz1, hz2⟩ := info_parts Try.info_u8
  obtain ⟨b, off, e, _, hc⟩ := hR.at' h0
  cases e
  obtain ⟨v', w', hr, hown, hgr, _⟩ := run_append_own (P := Try.prog) w lo 22 o.type 5 i0 (.int .u8 0) 1 1 Try.underlying22 hi hz0 hz1 hz2 rfl (by decide) (.slice ao m co) m (bys D) hA.up ⟨b, off, none⟩ nx cx (bys X) (by rw [bys_length, hR.len]; omega) (by
    intro j u hu
    have hj : j < X.length := by
      have := (List.getElem?_eq_some_iff.1 hu).1
      rw [bys_length] at this; exact this
    rw [nth_bys X j hj] at hu
    rw [← hu, addr_add]
    exact hc j (by rw [← hR.len]; exact hj)) (bys_one _) (by unfold maxLen; omega) (by omega) hlo
  unfold Oper.wp execOp
  simp only [hop, resolve, invoke, builtin, Sem.run_bind, Sem.run_pure, Result.andThen_ok, List.map_toArray, List.map_cons, List.map_nil, hs, hx, hr]
  show K _ _
  rw [bys_app] at hown
  have hown' := hown
  rcases hown.2 with ⟨h1, h2⟩ | ⟨g, c1, cur, h1, h2, h3⟩
  · omega
  · subst h1
    exact hK (some ⟨g, 0, none⟩) c1 w' ⟨own_base hown', isB_append hA.byte hR.byte, fun g' h => by have e : g = g' := Option.some.inj h; omega⟩ hgr

theorem OwQ.sep {w : World} {lo : Nat} {a : Option Addr} {n c : Nat} {qs : List Qw} (h : OwQ w lo a n c qs) {i j : Nat} (hij : i ≠ j) {r q : Qw} (hr : qs[i]? = some r) (hq : qs[j]? = some q) : ∀ x, Ofr r.v r.rs x → ¬ Ofr q.v q.rs x := by
  have hpw := List.pairwise_iff_getElem.1 h.apart
  obtain ⟨hi, rfl⟩ := List.getElem?_eq_some_iff.1 hr
  obtain ⟨hj, rfl⟩ := List.getElem?_eq_some_iff.1 hq
  intro x h1 h2
  rcases Nat.lt_or_ge i j with hl | hl
  · exact hpw i j hi hj hl x h1 h2
  · exact hpw j i hj hi (by omega) x h2 h1

theorem OwQ.rowAt {w w8 : World} {p : Nat → Prop} {lo gq n c : Nat} {qs : List Qw} (h : OwQ w lo (some ⟨gq, 0, none⟩) n c qs) (F : Fz p w w8) (hp : ¬ p gq) : w8.ownsRow 0 83 3 (.slice (some ⟨gq, 0, none⟩) n c) n (flQ qs) := by
  refine ⟨h.own.1, ?_⟩
  rcases h.own.2 with h1 | ⟨g, cap', cur, h1, h2, h3, h4⟩
  · exact .inl h1
  · refine .inr ⟨g, cap', cur, h1, h2, ?_, h4⟩
    have e : g = gq := by simp only [Value.slice.injEq, Option.some.injEq, Addr.mk.injEq] at h1; exact h1.1.1.symm
    subst e
    rw [F.block g (Array.getElem?_eq_some_iff.1 h3).1 hp]
    exact h3
/-- a queue's rows grew, and the queue is written into its row -/
theorem OwQ.put {w w8 w9 : World} {p : Nat → Prop} {lo gq n c j : Nat} {qs : List Qw} {q' : Qw} (h : OwQ w lo (some ⟨gq, 0, none⟩) n c qs) (hj : j < n) (F : Fz p w w8) (hpo : ∀ i r, i ≠ j → qs[i]? = some r → ∀ x, Ofr r.v r.rs x → ¬ p x)
    (hq : OwR w8 lo q'.a q'.n q'.c q'.rs) (hap : ∀ i r, i ≠ j → qs[i]? = some r → ∀ x, Ofr r.v r.rs x → ¬ Ofr q'.v q'.rs x) (h8 : w8.ownsRow 0 83 3 (.slice (some ⟨gq, 0, none⟩) n c) n (flQ qs)) (ho : w9.ownsRow 0 83 3 (.slice (some ⟨gq, 0, none⟩) n c) n (flQ (qs.set j q'))) (u : w8.grownBy w9 (some gq)) :
    OwQ w9 lo (some ⟨gq, 0, none⟩) n c (qs.set j q') := by
  have hl := h.len
  have hpw := List.pairwise_iff_getElem.1 h.apart
  have hne : ∀ r : Qw, OwR w8 lo r.a r.n r.c r.rs → OwR w9 lo r.a r.n r.c r.rs := fun r hr => hr.fz (Fz.of1 u) (fun x hx e => by
    have e : x = gq := e
    rcases h8.2 with ⟨h1, _⟩ | ⟨y, cap', cur, h1, _, hh, _⟩
    · simp at h1
    · simp only [Value.slice.injEq, Option.some.injEq, Addr.mk.injEq] at h1
      obtain ⟨⟨rfl, _⟩, _, rfl⟩ := h1
      exact ofr_box hr hh (by decide) (by decide) hx e)
  refine ⟨ho, by rw [List.length_set]; exact hl, h.new, fun r hr => ?_, List.pairwise_iff_getElem.2 (fun k i hkl hil hki x hx e => ?_)⟩
  · obtain ⟨i, hil, rfl⟩ := List.mem_iff_getElem.1 hr
    have hil' := hil
    rw [List.length_set] at hil'
    by_cases hij : i = j
    · subst hij
      rw [List.getElem_set_self]
      exact hne _ hq
    · rw [List.getElem_set_ne (fun e => hij e.symm)]
      exact hne _ ((h.each _ (List.getElem_mem hil')).fz F (fun x hx => hpo i _ hij (List.getElem?_eq_getElem hil') x hx))
  · have hkl' := hkl
    have hil' := hil
    rw [List.length_set] at hkl' hil'
    by_cases hkj : k = j
    · subst hkj
      rw [List.getElem_set_self] at hx
      rw [List.getElem_set_ne (by omega)] at e
      exact hap i _ (by omega) (List.getElem?_eq_getElem hil') x e hx
    · rw [List.getElem_set_ne (fun e => hkj e.symm)] at hx
      by_cases hij : i = j
      · subst hij
        rw [List.getElem_set_self] at e
        exact hap k _ hkj (List.getElem?_eq_getElem hkl') x hx e
      · rw [List.getElem_set_ne (fun e => hij e.symm)] at e
        exact hpw k i hkl' hil' hki x hx e
theorem onP_len {B : List Nat} (h : onP B = true) : 7 ≤ B.length ∧ B.length ≤ 65542 := by
  unfold onP at h
  rw [Bool.and_eq_true, decide_eq_true_eq, decide_eq_true_eq] at h
  obtain ⟨h1, h2⟩ := h
  unfold dcK at h2
  rw [if_pos h1] at h2
  omega
theorem seD_ok {cr sz ma tu : Int} {Qs : List Qd} (h : seD cr sz ma tu Qs = true) : Qs.length = 7 ∧ ∀ q, q ∈ Qs → q.P.length ≤ 200 ∧ ∀ r, r ∈ q.P → 7 ≤ r.length ∧ r.length ≤ 65542 := by
  unfold seD at h
  simp only [Bool.and_eq_true, decide_eq_true_eq, List.all_eq_true] at h
  refine ⟨h.1.2, fun q hq => ?_⟩
  have h2 := h.2 q hq
  unfold quD at h2
  simp only [Bool.and_eq_true, decide_eq_true_eq, List.all_eq_true] at h2
  exact ⟨h2.1.1.2, fun r hr => onP_len (h2.1.2 r hr)⟩
/-- what Put answers -/
def ptQ (Qs : List Qd) (ch : Int) : Qd := Qs.getD ch.toNat qd0
def ptE (cr sz ma tu : Int) (Qs : List Qd) (ch : Int) (B : List Nat) : Nat := if seD cr sz ma tu Qs = true then (if wiB ch 6 = true then (if onP B = true then (if (ptQ Qs ch).P.length = 200 then 12 else 0) else 8) else 2) else 11
def ptV (cr sz ma tu : Int) (Qs : List Qd) (ch : Int) (B : List Nat) : List Qd := if seD cr sz ma tu Qs = true then (if ptE cr sz ma tu Qs ch B = 0 then Qs.set ch.toNat ⟨(ptQ Qs ch).ow, (ptQ Qs ch).go, (ptQ Qs ch).P ++ [B]⟩ else Qs) else []
def ptX (cr sz ma tu : Int) (Qs : List Qd) (z : Int) : Int := if seD cr sz ma tu Qs = true then z else 0
theorem pt_bad {cr sz ma tu : Int} {Qs : List Qd} {ch : Int} {B : List Nat} (hs : seD cr sz ma tu Qs = true) {e : Nat} (hE : ptE cr sz ma tu Qs ch B = e) (he : e ≠ 0) : Hid (ptE cr sz ma tu Qs ch B = e) ∧ Hid (ptV cr sz ma tu Qs ch B = Qs) ∧ Hid (∀ z, ptX cr sz ma tu Qs z = z) := by
  refine ⟨hE, ?_, fun z => if_pos hs⟩
  show _ = _
  unfold ptV
  rw [if_pos hs, if_neg (by rw [hE]; exact he)]

set_option maxHeartbeats 32000000 in
theorem pu_t11 {u0 u1 u4 u5 u7 u9 u10 u11 u12 u13 u14 u15 u16 u17 u18 u19 u20 u21 u22 u23 u24 u25 u26 u27 u28 u29 u30 u31 u32 u33 u34 u35 u36 u37 u38 u39 u40 u41 u42 u43 u44 u45 : Value} (w0 w : World) (cr sz ma tu : Int) (g3 g6 gq lo j nb cb bb ob : Nat) (qs : List Qw) (q : Qw) (Qs : List Qd) (B : List Nat) (G0 : w0.grownBy w none) (hb : Rd w (some ⟨bb, ob, none⟩) nb cb B) (hnb : 1 ≤ nb ∧ nb ≤ 100000) (b3 : BxS w g3 38 #[.int .i64 cr, .int .i64 sz, .int .i64 ma, .int .i64 tu, .slice (some ⟨gq, 0, none⟩) 7 7]) (b6 : BxS w g6 38 #[.int .i64 0, .int .i64 0, .int .i64 0, .int .i64 0, .slice none 0 0]) (hO : OwS w lo (some ⟨gq, 0, none⟩) 7 7 qs Qs) (hj : qs[j]? = some q) (h36 : w0.heap.size ≤ g3 ∧ g3 < g6 ∧ g6 < lo) (hlo : lo ≤ w.heap.size) (hqn : q.n ≤ 200) :
    Code.wp Try.prog (tailR 11 (Try.f29.body.getD .skip)) (bodyPost Try.prog Try.f29 (fun e w' => ∃ (a' : Option Addr) (n' c' : Nat) (qs' : List Qw), e = .returned (.tuple #[.agg #[.int .i64 cr, .int .i64 sz, .int .i64 ma, .int .i64 tu, .slice a' n' c'], .int .i64 0]) ∧ OwS w' w0.heap.size a' n' c' qs' (Qs.set j ⟨q.ow, q.go, q.rs.map Rw.D ++ [B]⟩) ∧ w0.grownBy w' none)) (Act.mk (List.toArray (u0 :: u1 :: (.slice (some ⟨bb, ob, none⟩) nb cb) :: (.pointer (some ⟨g3, 0, none⟩)) :: u4 :: u5 :: (.pointer (some ⟨g6, 0, none⟩)) :: u7 :: (.pointer (some ⟨gq, j * 3, none⟩)) :: u9 :: u10 :: u11 :: u12 :: u13 :: u14 :: u15 :: u16 :: u17 :: u18 :: u19 :: u20 :: u21 :: u22 :: u23 :: u24 :: u25 :: u26 :: u27 :: u28 :: u29 :: u30 :: u31 :: u32 :: u33 :: u34 :: u35 :: u36 :: u37 :: u38 :: u39 :: u40 :: u41 :: u42 :: u43 :: u44 :: u45 :: [])) []) w := by
  conv => enter [2]; whnf
  refine wp_seq_k fun K1 hK1 => ?_
  have HK1 : Hid _ := hK1
  clear hK1
  have i5 := Try.info_se
  have hl := hO.o.len
  have hj7 : j < 7 := by have := (List.getElem?_eq_some_iff.1 hj).1; omega
  have hmem := List.mem_of_getElem? hj
  obtain ⟨c0, c1, c2⟩ := hO.o.cell hj
  have hgq := hO.o.hi (x := gq) (.inl rfl)
  have SD := grown_drew w none
  have SX : (w.drew).cell? ⟨gq, j * 3 + 1, none⟩ = some (.slice q.a q.n q.c) := c1
  refine wp_regionL (fun wz => wz.cell? ⟨gq, j * 3 + 1, none⟩ = some (.slice q.a q.n q.c)) [11] #[false, false, false, false, false, false, false, false, false, false, false, false] rfl (by kernel_rfl) ?_
  refine wpAnyZ_take [9, 10, 11] 0 (.pointer (some ⟨gq, j * 3, none⟩)) rfl (by kernel_rfl) (fun _ _ _ h => h) SX rfl (by intro wz hz; go_simp) ?_
  try simp only [List.getElem_toArray, List.getElem_cons_succ, List.getElem_cons_zero, Act.put, List.setIfInBounds_toArray, List.set_cons_zero, List.set_cons_succ]
  refine wpAnyZ_take [2, 3, 4, 8, 11] 1 (.pointer (some ⟨gq, j * 3, none⟩)) rfl (by kernel_rfl) (fun _ _ _ h => h) SX rfl (by intro wz hz; go_simp) ?_
  try simp only [List.getElem_toArray, List.getElem_cons_succ, List.getElem_cons_zero, Act.put, List.setIfInBounds_toArray, List.set_cons_zero, List.set_cons_succ]
  refine wpAnyZ_take [3, 4, 8, 11] 2 (.pointer (some ⟨gq, j * 3, none⟩)) rfl (by kernel_rfl) (fun _ _ _ h => h) SX rfl (by intro wz hz; go_simp) ?_
  try simp only [List.getElem_toArray, List.getElem_cons_succ, List.getElem_cons_zero, Act.put, List.setIfInBounds_toArray, List.set_cons_zero, List.set_cons_succ]
  refine wpAnyZ_take [4, 8, 11] 3 (.pointer (some ⟨gq, j * 3 + 1, none⟩)) rfl (by kernel_rfl) (fun _ _ _ h => h) SX rfl (by intro wz hz; go_simp) ?_
  try simp only [List.getElem_toArray, List.getElem_cons_succ, List.getElem_cons_zero, Act.put, List.setIfInBounds_toArray, List.set_cons_zero, List.set_cons_succ]
  refine wpAnyZ_take [8, 11] 4 (.slice q.a q.n q.c) rfl (by kernel_rfl) (fun _ _ _ h => h) SX rfl (by intro wz hz; go_simp) ?_
  try simp only [List.getElem_toArray, List.getElem_cons_succ, List.getElem_cons_zero, Act.put, List.setIfInBounds_toArray, List.set_cons_zero, List.set_cons_succ]
  refine wpAnyZ_take [6, 7, 8, 11] 5 (.slice (some ⟨bb, ob, none⟩) nb cb) rfl (by kernel_rfl) (fun _ _ _ h => h) SX rfl (by intro wz hz; go_simp) ?_
  try simp only [List.getElem_toArray, List.getElem_cons_succ, List.getElem_cons_zero, Act.put, List.setIfInBounds_toArray, List.set_cons_zero, List.set_cons_succ]
  have hO4 := hO.keep SD
  have hb4 := hb.keep SD
  have z4 := SD.size
  clear c0 c1 c2
  generalize w.drew = w4 at *
  refine wpAnyZ_oneB 6 rfl (by kernel_rfl) (fun K hK => ?_)
  go_simp
  go_at_call 49
  refine (pclone_any bb ob nb cb B w4 hb4 (by omega) (by omega)).mono ?_
  rintro e w6 ⟨ga, cg, rfl, hA6, g6'⟩
  dsimp only
  have z6 := g6'.size
  have hO6 := hO4.keep g6'
  obtain ⟨c0, c1, c2⟩ := hO6.o.cell hj
  refine hK _ _ (fun _ => c1) ?_
  try simp only [List.getElem_toArray, List.getElem_cons_succ, List.getElem_cons_zero, Act.put, List.setIfInBounds_toArray, List.set_cons_zero, List.set_cons_succ]
  refine wpAnyZ_oneB 7 rfl (by kernel_rfl) (fun K hK => ?_)
  go_simp
  have gA := World.grownBy_alloc w6 (.cells #[.slice (some ⟨ga, 0, none⟩) nb cg] 22) none
  have c1A := (hO6.keep gA).o.cell hj
  refine hK _ _ (fun _ => c1A.2.1) ?_
  try simp only [List.getElem_toArray, List.getElem_cons_succ, List.getElem_cons_zero, Act.put, List.setIfInBounds_toArray, List.set_cons_zero, List.set_cons_succ]
  have hOr := hO6.o.each q hmem
  have hga := hA6.new ga rfl
  refine wpAnyZ_oneB 8 rfl (by kernel_rfl) (fun K hK => ?_)
  refine step_psR w6 lo (⟨some ⟨ga, 0, none⟩, nb, cg, B⟩ : Rw) rfl _ _ rfl q.a q.n q.c q.rs rfl hOr (by omega) rfl (by omega) (hA6.wide (by omega)) (fun r hr y e => ((hO4.o.each q hmem).each r hr).later2 hA6 (Nat.le_refl _) y e) ?_
  intro gx cx w8 hR8 u8 hgx
  have F8 := Fz.ofO u8
  have hngq : ¬ (Value.slice q.a q.n q.c).ownBlock = some gq := fun e => hO6.o.row_ne hOr (.inl e) rfl
  have hrow := hO6.o.rowAt F8 hngq
  have hc8 : w8.cell? ⟨gq, j * 3 + 1, none⟩ = some (.slice q.a q.n q.c) := by
    have := hrow.cells (g := gq) rfl (j * 3 + 1) _ (by rw [flQ_at qs j q hj 1 (by decide)]; rfl)
    rwa [addr_add', Nat.zero_add] at this
  have hf8 := hrow.frozenAt (j * 3 + 1)
  refine hK _ _ (fun _ => hc8) ?_
  try simp only [List.getElem_toArray, List.getElem_cons_succ, List.getElem_cons_zero, Act.put, List.setIfInBounds_toArray, List.set_cons_zero, List.set_cons_succ]
  refine wpAnyZ_take [10, 11] 9 (.pointer (some ⟨gq, j * 3, none⟩)) rfl (by kernel_rfl) (fun _ _ _ h => h) hc8 rfl (by intro wz hz; go_simp) ?_
  try simp only [List.getElem_toArray, List.getElem_cons_succ, List.getElem_cons_zero, Act.put, List.setIfInBounds_toArray, List.set_cons_zero, List.set_cons_succ]
  refine wpAnyZ_take [11] 10 (.pointer (some ⟨gq, j * 3 + 1, none⟩)) rfl (by kernel_rfl) (fun _ _ _ h => h) hc8 rfl (by intro wz hz; go_simp) ?_
  try simp only [List.getElem_toArray, List.getElem_cons_succ, List.getElem_cons_zero, Act.put, List.setIfInBounds_toArray, List.set_cons_zero, List.set_cons_succ]
  refine wpAnyZ_oneB 11 rfl (by kernel_rfl) (fun K hK => ?_)
  go_simp
  refine hK _ _ (fun h => absurd (by decide) h) ?_
  try simp only [List.getElem_toArray, List.getElem_cons_succ, List.getElem_cons_zero, Act.put, List.setIfInBounds_toArray, List.set_cons_zero, List.set_cons_succ]
  refine wpAnyZ_doneB (by kernel_rfl) ?_ _
  have u9 := grown_set w8 gq (j * 3 + 1) (.slice (some ⟨gx, 0, none⟩) (q.n + 1) cx)
  have ho9 := (hrow.stored (j * 3 + 1) (.slice (some ⟨gx, 0, none⟩) (q.n + 1) cx)).1
  rw [flQ_set qs j q ⟨q.ow, some ⟨gx, 0, none⟩, q.n + 1, cx, q.go, q.rs ++ [⟨some ⟨ga, 0, none⟩, nb, cg, B⟩]⟩ hj 1 (by decide) _ rfl] at ho9
  have hO9 := hO6.o.put (q' := ⟨q.ow, some ⟨gx, 0, none⟩, q.n + 1, cx, q.go, q.rs ++ [⟨some ⟨ga, 0, none⟩, nb, cg, B⟩]⟩) hj7 F8 (fun i r hij hr x hx e => (OwQ.sep hO6.o hij hr hj) x hx (.inl e)) hR8 (fun i r hij hr x hx e => by
    have hxl := (hO6.o.hi (.inr ⟨r, List.mem_of_getElem? hr, hx⟩)).1
    have hxl4 := (hO4.o.hi (.inr ⟨r, List.mem_of_getElem? hr, hx⟩)).1
    rcases e with e | ⟨s, hs, e⟩
    · have e : gx = x := Option.some.inj e
      rcases hgx with h1 | h1
      · exact (OwQ.sep hO6.o hij hr hj) x hx (.inl (by rw [← e]; exact h1))
      · omega
    · rcases List.mem_append.1 hs with hs | hs
      · exact (OwQ.sep hO6.o hij hr hj) x hx (.inr ⟨s, hs, e⟩)
      · rw [List.mem_singleton.1 hs] at e
        have e : ga = x := Option.some.inj e
        omega) hrow ho9 u9
  have hb3 : BxS w8 g3 38 #[.int .i64 cr, .int .i64 sz, .int .i64 ma, .int .i64 tu, .slice (some ⟨gq, 0, none⟩) 7 7] := ((b3.keep SD (by simp)).keep g6' (by simp)).fz F8 (fun e => by have := (hO6.o.hi (.inr ⟨q, hmem, .inl e⟩)).2; omega)
  have hb6 : BxS w8 g6 38 #[.int .i64 0, .int .i64 0, .int .i64 0, .int .i64 0, .slice none 0 0] := ((b6.keep SD (by simp)).keep g6' (by simp)).fz F8 (fun e => by have := (hO6.o.hi (.inr ⟨q, hmem, .inl e⟩)).2; omega)
  have G8 : w0.grownBy w8 none := grown_far (grown_trans (grown_trans G0 SD) g6') u8 (fun x e => by have := (hO6.o.hi (.inr ⟨q, hmem, .inl e⟩)).2; omega)
  clear hc8 hf8
  generalize w8.setCell ⟨gq, j * 3 + 1, none⟩ (.slice (some ⟨gx, 0, none⟩) (q.n + 1) cx) = w9 at *
  have b39 := hb3.keep u9 (fun e => by have e := Option.some.inj e; omega)
  have b69 := hb6.keep u9 (fun e => by have e := Option.some.inj e; omega)
  have G9 := grown_far G8 u9 (fun q e => by have e := Option.some.inj e; omega)
  obtain ⟨x0, x1, x2, x3, x4⟩ := BxS.cell5 b39
  refine HK1.out _ _ ?_
  clear HK1
  have s0 : True := trivial
  go_wp2_with (have _t := s0; clear s0; refine wpList_stX _ rfl _ (.tmp 6) (.tmp 45) rfl g6 _ _ rfl rfl b69 i5 rfl (by simp [Value.oneCell']) ?_; intro w10 b10 u10; skip)
  refine bodyPost_ret (results_cell1t rfl _ _ _ ⟨g6, 0, none⟩ _ (.int .i64 0) rfl (BxS.load (t := 38) b10 Try.underlying38 i5) rfl) rfl ?_
  refine ⟨some ⟨gq, 0, none⟩, 7, 7, _, rfl, ⟨(hO9.far u10 (by omega)).wide (by have := G0.size; omega), ?_⟩, grown_far G9 u10 (fun q e => by have e := Option.some.inj e; omega)⟩
  rw [List.map_set, hO.d]
  congr 1
  show Qd.mk q.ow q.go ((q.rs ++ [(⟨some ⟨ga, 0, none⟩, nb, cg, B⟩ : Rw)]).map Rw.D) = _
  rw [List.map_append]
  rfl

set_option maxHeartbeats 32000000 in
theorem sput_any (cr sz ma tu : Int) (a : Option Addr) (n c : Nat) (Qs : List Qd) (ch : Int) (b : Option Addr) (nb cb : Nat) (B : List Nat) (w : World) (h : RdS w a n c Qs) (hb : Rd w b nb cb B) :
    Calls Try.prog 29 #[.agg #[.int .i64 cr, .int .i64 sz, .int .i64 ma, .int .i64 tu, .slice a n c], .int .i64 ch, .slice b nb cb] w fun e w' => ∃ (a' : Option Addr) (n' c' : Nat) (qs' : List Qw), e = .returned (.tuple #[.agg #[.int .i64 (ptX cr sz ma tu Qs cr), .int .i64 (ptX cr sz ma tu Qs sz), .int .i64 (ptX cr sz ma tu Qs ma), .int .i64 (ptX cr sz ma tu Qs tu), .slice a' n' c'], .int .i64 (ptE cr sz ma tu Qs ch B : Int)]) ∧ OwS w' w.heap.size a' n' c' qs' (ptV cr sz ma tu Qs ch B) ∧ w.grownBy w' none := by
  have hlQ := h.len
  have hlB := hb.len
  have b0 := BxS.new w 38 #[.int .i64 cr, .int .i64 sz, .int .i64 ma, .int .i64 tu, .slice a n c]
  have g0 := World.grownBy_alloc w (.cells #[.int .i64 cr, .int .i64 sz, .int .i64 ma, .int .i64 tu, .slice a n c] 38) none
  generalize hw0 : w.alloc (.cells #[.int .i64 cr, .int .i64 sz, .int .i64 ma, .int .i64 tu, .slice a n c] 38) = w0 at b0 g0
  have hz0 : w0.heap.size = w.heap.size + 1 := by rw [← hw0]; simp
  have b1 := BxS.new w0 38 #[.int .i64 0, .int .i64 0, .int .i64 0, .int .i64 0, .slice none 0 0]
  have g1 := World.grownBy_alloc w0 (.cells #[.int .i64 0, .int .i64 0, .int .i64 0, .int .i64 0, .slice none 0 0] 38) none
  generalize hw1 : w0.alloc (.cells #[.int .i64 0, .int .i64 0, .int .i64 0, .int .i64 0, .slice none 0 0] 38) = w1 at b1 g1
  rw [hz0] at b1
  have sz1 : w.heap.size + 2 ≤ w1.heap.size := by rw [← hw1]; simp [hz0]
  have p0 := b0.keep g1 (by simp)
  have G1 := grown_trans g0 g1
  have i5 := Try.info_se
  obtain ⟨x0, x1, x2, x3, x4⟩ := BxS.cell5 p0
  have kM := senderMay2_any cr sz ma tu a n c Qs w1 (h.keep G1)
  have s0 : True := trivial
  cases hS : seD cr sz ma tu Qs with
  | false =>
    have HE : Hid (ptE cr sz ma tu Qs ch B = 11) := by show _ = _; unfold ptE; rw [hS]; rfl
    have HV : Hid (ptV cr sz ma tu Qs ch B = []) := by show _ = _; unfold ptV; rw [hS]; rfl
    have HX : Hid (∀ z, ptX cr sz ma tu Qs z = 0) := fun z => by unfold ptX; rw [hS]; rfl
    rw [hS] at kM
    go_enter Try.func29, Try.ntmps29
    go_wp2_with (first
      | (go_at_call 56; have _t := s0; clear s0; refine kM.mono ?_; rintro e w2 ⟨rfl, y2⟩; have q0 := p0.keep y2 (by simp); have q1 := b1.keep y2 (by simp); have z2 := y2.size; clear x0 x1 x2 x3 x4; obtain ⟨x0, x1, x2, x3, x4⟩ := BxS.cell5 q0; have s1 : True := trivial)
      | (have _t := s1; clear s1; refine wpList_stX _ rfl _ (.tmp 6) (.tmp 12) rfl (w.heap.size + 1) _ _ rfl rfl q1 i5 rfl (by simp [Value.oneCell']) ?_; intro w9 b9 u9; skip))
    refine bodyPost_ret (results_cell1t rfl _ _ _ ⟨(w.heap.size + 1), 0, none⟩ _ (.int .i64 11) rfl (BxS.load (t := 38) b9 Try.underlying38 i5) rfl) rfl ?_
    rw [HE.out, HV.out, HX.out, HX.out, HX.out, HX.out]
    exact ⟨none, 0, 0, [], rfl, OwS.nil _ _, grown_far (grown_trans G1 y2) u9 (fun q e => by have e := Option.some.inj e; omega)⟩
  | true =>
    rw [hS] at kM
    obtain ⟨hl7, hq7⟩ := seD_ok hS
    have hn7 : n = 7 := by omega
    subst hn7
    have kC := fun wz hz => copySender_any cr sz ma tu a c Qs wz hz (fun q hq => ⟨(hq7 q hq).1, fun r hr => by have := (hq7 q hq).2 r hr; omega⟩)
    have kW := fun wz => fwithin_any ch 6 wz
    cases hW : wiB ch 6 with
    | false =>
      rw [hW] at kW
      obtain ⟨HE, HV, HX⟩ := pt_bad (ch := ch) (B := B) hS (e := 2) (by unfold ptE; rw [hS, hW]; rfl) (by decide)
      go_enter Try.func29, Try.ntmps29
      go_wp2_with (first
        | (go_at_call 56; have _t := s0; clear s0; refine kM.mono ?_; rintro e w2 ⟨rfl, y2⟩; have q0 := p0.keep y2 (by simp); have q1 := b1.keep y2 (by simp); have z2 := y2.size; clear x0 x1 x2 x3 x4; obtain ⟨x0, x1, x2, x3, x4⟩ := BxS.cell5 q0; have s1 : True := trivial)
        | (go_at_call 57; have _t := s1; clear s1; refine (kC _ (h.keep (grown_trans G1 y2))).mono ?_; rintro e w3 ⟨gq, qs3, rfl, hO3, y3⟩; have q0 := q0.keep y3 (by simp); have q1 := q1.keep y3 (by simp); have z3 := y3.size; clear x0 x1 x2 x3 x4; have s2 : True := trivial)
        | (have _t := s2; clear s2; refine wpList_stX _ rfl _ (.tmp 3) (.tmp 14) rfl w.heap.size _ _ rfl rfl q0 i5 rfl (by simp [Value.oneCell']) ?_; intro w4 q0 u4; obtain ⟨x0, x1, x2, x3, x4⟩ := BxS.cell5 q0; have hO4 := hO3.far u4 (by omega); have q1 := q1.keep u4 (fun e => by have e := Option.some.inj e; omega); have G4 := grown_far (grown_trans (grown_trans G1 y2) y3) u4 (fun q e => by have e := Option.some.inj e; omega); have z4 := u4.size; have s3 : True := trivial)
        | (go_at_call 43; have _t := s3; clear s3; refine (kW _).mono ?_; rintro e w5 ⟨rfl, hw5⟩; have hw5 := hw5.symm; subst hw5; have s4 : True := trivial)
        | (have _t := s4; clear s4; refine wpList_stX _ rfl _ (.tmp 6) (.tmp 18) rfl (w.heap.size + 1) _ _ rfl rfl q1 i5 rfl (by simp [Value.oneCell']) ?_; intro w9 b9 u9; skip))
      refine bodyPost_ret (results_cell1t rfl _ _ _ ⟨(w.heap.size + 1), 0, none⟩ _ (.int .i64 2) rfl (BxS.load (t := 38) b9 Try.underlying38 i5) rfl) rfl ?_
      rw [HE.out, HV.out, HX.out, HX.out, HX.out, HX.out]
      exact ⟨_, _, _, _, rfl, (hO4.far u9 (by omega)).wide (by omega), grown_far G4 u9 (fun q e => by have e := Option.some.inj e; omega)⟩
    | true =>
      rw [hW] at kW
      have hch : 0 ≤ ch ∧ ch ≤ 6 := of_decide_eq_true hW
      obtain ⟨j, rfl⟩ : ∃ j : Nat, ch = (j : Int) := ⟨ch.toNat, by omega⟩
      have kP := fun wz hz => onePacket_any b nb cb B wz hz
      cases hP : onP B with
      | false =>
        rw [hP] at kP
        obtain ⟨HE, HV, HX⟩ := pt_bad (ch := (j : Int)) (B := B) hS (e := 8) (by unfold ptE; rw [hS, hW, hP]; rfl) (by decide)
        go_enter Try.func29, Try.ntmps29
        go_wp2_with (first
          | (go_at_call 56; have _t := s0; clear s0; refine kM.mono ?_; rintro e w2 ⟨rfl, y2⟩; have q0 := p0.keep y2 (by simp); have q1 := b1.keep y2 (by simp); have z2 := y2.size; clear x0 x1 x2 x3 x4; obtain ⟨x0, x1, x2, x3, x4⟩ := BxS.cell5 q0; have s1 : True := trivial)
          | (go_at_call 57; have _t := s1; clear s1; refine (kC _ (h.keep (grown_trans G1 y2))).mono ?_; rintro e w3 ⟨gq, qs3, rfl, hO3, y3⟩; have q0 := q0.keep y3 (by simp); have q1 := q1.keep y3 (by simp); have z3 := y3.size; clear x0 x1 x2 x3 x4; have s2 : True := trivial)
          | (have _t := s2; clear s2; refine wpList_stX _ rfl _ (.tmp 3) (.tmp 14) rfl w.heap.size _ _ rfl rfl q0 i5 rfl (by simp [Value.oneCell']) ?_; intro w4 q0 u4; obtain ⟨x0, x1, x2, x3, x4⟩ := BxS.cell5 q0; have hO4 := hO3.far u4 (by omega); have q1 := q1.keep u4 (fun e => by have e := Option.some.inj e; omega); have G4 := grown_far (grown_trans (grown_trans G1 y2) y3) u4 (fun q e => by have e := Option.some.inj e; omega); have z4 := u4.size; have s3 : True := trivial)
          | (go_at_call 43; have _t := s3; clear s3; refine (kW _).mono ?_; rintro e w5 ⟨rfl, hw5⟩; have hw5 := hw5.symm; subst hw5; have s4 : True := trivial)
          | (go_at_call 58; have _t := s4; clear s4; refine (kP _ (hb.keep G4)).mono ?_; rintro e w6 ⟨rfl, y6⟩; have hO6 := hO4.keep y6; have q0 := q0.keep y6 (by simp); have q1 := q1.keep y6 (by simp); clear x0 x1 x2 x3 x4; obtain ⟨x0, x1, x2, x3, x4⟩ := BxS.cell5 q0; have G6 := grown_trans G4 y6; have z6 := y6.size; have s5 : True := trivial)
          | (have _t := s5; clear s5; refine wpList_stX _ rfl _ (.tmp 6) (.tmp 22) rfl (w.heap.size + 1) _ _ rfl rfl q1 i5 rfl (by simp [Value.oneCell']) ?_; intro w9 b9 u9; skip))
        refine bodyPost_ret (results_cell1t rfl _ _ _ ⟨(w.heap.size + 1), 0, none⟩ _ (.int .i64 8) rfl (BxS.load (t := 38) b9 Try.underlying38 i5) rfl) rfl ?_
        rw [HE.out, HV.out, HX.out, HX.out, HX.out, HX.out]
        exact ⟨_, _, _, _, rfl, (hO6.far u9 (by omega)).wide (by omega), grown_far G6 u9 (fun q e => by have e := Option.some.inj e; omega)⟩
      | true =>
        rw [hP] at kP
        have hBl := onP_len hP
        obtain ⟨bb, ob, rfl, _, _⟩ := hb.at' (by omega)
        have hj7 : j < 7 := by omega
        have hj7' : (j : Int) < 7 := by omega
        have HQ0 : Hid (ptQ Qs (j : Int) = Qs.getD j qd0) := rfl
        go_enter Try.func29, Try.ntmps29
        refine wp_seq_k fun K0 hK0 => ?_
        have HK0 : Hid _ := hK0
        clear hK0
        go_wp2
        refine HK0.out _ _ ?_
        clear HK0
        refine wp_seq_k fun K1 hK1 => ?_
        have HK1 : Hid _ := hK1
        clear hK1
        go_wp2_with (go_at_call 56; have _t := s0; clear s0; refine kM.mono ?_; rintro e w2 ⟨rfl, y2⟩; have q0 := p0.keep y2 (by simp); have q1 := b1.keep y2 (by simp); have z2 := y2.size; clear x0 x1 x2 x3 x4; obtain ⟨x0, x1, x2, x3, x4⟩ := BxS.cell5 q0; have s1 : True := trivial)
        refine HK1.out _ _ ?_
        clear HK1
        refine wp_seq_k fun K2 hK2 => ?_
        have HK2 : Hid _ := hK2
        clear hK2
        go_wp2_with (first
          | (go_at_call 57; have _t := s1; clear s1; refine (kC _ (h.keep (grown_trans G1 y2))).mono ?_; rintro e w3 ⟨gq, qs3, rfl, hO3, y3⟩; have q0 := q0.keep y3 (by simp); have q1 := q1.keep y3 (by simp); have z3 := y3.size; clear x0 x1 x2 x3 x4; have s2 : True := trivial)
          | (have _t := s2; clear s2; refine wpList_stX _ rfl _ (.tmp 3) (.tmp 14) rfl w.heap.size _ _ rfl rfl q0 i5 rfl (by simp [Value.oneCell']) ?_; intro w4 q0 u4; obtain ⟨x0, x1, x2, x3, x4⟩ := BxS.cell5 q0; have hO4 := hO3.far u4 (by omega); have q1 := q1.keep u4 (fun e => by have e := Option.some.inj e; omega); have G4 := grown_far (grown_trans (grown_trans G1 y2) y3) u4 (fun q e => by have e := Option.some.inj e; omega); have z4 := u4.size; have s3 : True := trivial))
        refine HK2.out _ _ ?_
        clear HK2
        refine wp_seq_k fun K3 hK3 => ?_
        have HK3 : Hid _ := hK3
        clear hK3
        go_wp2_with (go_at_call 43; have _t := s3; clear s3; refine (kW _).mono ?_; rintro e w5 ⟨rfl, hw5⟩; have hw5 := hw5.symm; subst hw5; have s4 : True := trivial)
        refine HK3.out _ _ ?_
        clear HK3
        refine wp_seq_k fun K4 hK4 => ?_
        have HK4 : Hid _ := hK4
        clear hK4
        go_wp2_with (go_at_call 58; have _t := s4; clear s4; refine (kP _ (hb.keep G4)).mono ?_; rintro e w6 ⟨rfl, y6⟩; have hO6 := hO4.keep y6; have q0 := q0.keep y6 (by simp); have q1 := q1.keep y6 (by simp); clear x0 x1 x2 x3 x4; obtain ⟨x0, x1, x2, x3, x4⟩ := BxS.cell5 q0; have G6 := grown_trans G4 y6; have z6 := y6.size; have s5 : True := trivial)
        refine HK4.out _ _ ?_
        clear HK4
        refine wp_seq_k fun K5 hK5 => ?_
        have HK5 : Hid _ := hK5
        clear hK5
        go_wp2
        refine HK5.out _ _ ?_
        clear HK5
        have hll := hO6.o.len
        obtain ⟨q, hq⟩ : ∃ q, qs3[j]? = some q := ⟨_, List.getElem?_eq_getElem (by omega)⟩
        obtain ⟨y0, y1, y2'⟩ := hO6.o.cell hq
        have hmem := List.mem_of_getElem? hq
        have hqd : Qs.getD j qd0 = q.d := by rw [← hO6.d, List.getD_eq_getElem?_getD, List.getElem?_map, hq]; rfl
        have hPq : (ptQ Qs (j : Int)).P = q.rs.map Rw.D := by rw [HQ0.out, hqd]; rfl
        have hqn := (hO6.o.each q hmem).len
        have HPl : Hid ((ptQ Qs (j : Int)).P.length = q.n) := by show _ = _; rw [hPq, List.length_map]; exact hqn
        have hq200 : q.n ≤ 200 := by
          have h1 := (hq7 (Qs.getD j qd0) (by rw [List.getD_eq_getElem?_getD, List.getElem?_eq_getElem (by omega)]; exact List.getElem_mem _)).1
          have h2 := HPl.out
          rw [HQ0.out] at h2
          omega
        have HQD : Hid (ptQ Qs (j : Int) = q.d) := by show _ = _; rw [HQ0.out, hqd]
        clear hqd hPq hqn
        refine wp_seq_k fun K6 hK6 => ?_
        have HK6 : Hid _ := hK6
        clear hK6
        by_cases h200 : q.n = 200
        · obtain ⟨HE, HV, HX⟩ := pt_bad (ch := (j : Int)) (B := B) hS (e := 12) (by unfold ptE; rw [if_pos hS, if_pos hW, if_pos hP, if_pos (by rw [HPl.out]; exact h200)]) (by decide)
          have h200' : ((q.n : Int) == 200) = true := by rw [h200]; rfl
          have s6 : True := trivial
          clear h200
          go_wp2_with (have _t := s6; clear s6; refine wpList_stX _ rfl _ (.tmp 6) (.tmp 33) rfl (w.heap.size + 1) _ _ rfl rfl q1 i5 rfl (by simp [Value.oneCell']) ?_; intro w9 b9 u9; skip)
          refine bodyPost_ret (results_cell1t rfl _ _ _ ⟨(w.heap.size + 1), 0, none⟩ _ (.int .i64 12) rfl (BxS.load (t := 38) b9 Try.underlying38 i5) rfl) rfl ?_
          rw [HE.out, HV.out, HX.out, HX.out, HX.out, HX.out]
          exact ⟨_, _, _, _, rfl, (hO6.far u9 (by omega)).wide (by omega), grown_far G6 u9 (fun q e => by have e := Option.some.inj e; omega)⟩
        · have h200' : ((q.n : Int) == 200) = false := by simp; omega
          have hE0 : ptE cr sz ma tu Qs (j : Int) B = 0 := by unfold ptE; rw [if_pos hS, if_pos hW, if_pos hP, if_neg (by rw [HPl.out]; exact h200)]
          have HE : Hid (ptE cr sz ma tu Qs (j : Int) B = 0) := hE0
          have HV : Hid (ptV cr sz ma tu Qs (j : Int) B = Qs.set j ⟨q.ow, q.go, q.rs.map Rw.D ++ [B]⟩) := by
            show _ = _
            unfold ptV
            rw [if_pos hS, if_pos hE0, HQD.out]
            rfl
          have HX : Hid (∀ z, ptX cr sz ma tu Qs z = z) := fun z => if_pos hS
          clear hE0 h200
          go_wp2
          refine HK6.out _ _ ?_
          rw [HE.out, HV.out, HX.out, HX.out, HX.out, HX.out]
          exact pu_t11 w w6 cr sz ma tu w.heap.size (w.heap.size + 1) gq w2.heap.size j nb cb bb ob qs3 q Qs B G6 (hb.keep G6) (by omega) q0 q1 hO6 hq ⟨Nat.le_refl _, by omega, by omega⟩ (by omega) hq200
end Go.Proofs.Ytlmddjkplnbadaa
