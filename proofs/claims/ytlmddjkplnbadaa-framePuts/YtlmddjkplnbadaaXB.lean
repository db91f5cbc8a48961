import Derived.Test.YtlmddjkplnbadaaXA
namespace Go.Proofs.Ytlmddjkplnbadaa
open Go.RowKit
set_option maxRecDepth 100000
set_option linter.unusedVariables false
set_option linter.unusedSimpArgs false

/-- 'append(v, x)', x a row of bytes that is new -/
theorem wpList_psR (w : World) (lo : Nat) (r : Rw) {ops : Array Oper} {rest : List Oper} {o : Oper} {a : Act} {Q : Exit → Act → World → Prop} (hg : o.guard = none) (s x : Operand)
    (hop : o.op = Op.call { callee := .builtin .append, args := #[s, x], argTypes := #[81, 81] }) (ao : Option Addr) (m co : Nat) (rs : List Rw) (hs : a.eval s = .slice ao m co)
    (hA : OwR w lo ao m co rs) (hlo : lo ≤ w.heap.size) (hx : a.eval x = .slice (some ⟨w.heap.size, 0, none⟩) 1 1) (hb : (m + 1) * 24 ≤ 140737488355328) (hr : Ans w lo r.a r.n r.c r.D) (hap : ∀ q, q ∈ rs → ∀ y, q.v.ownBlock = some y → r.v.ownBlock ≠ some y)
    (hK : ∀ gx cx w', OwR w' lo (some ⟨gx, 0, none⟩) (m + 1) cx (rs ++ [r]) → w.grownBy w' (Value.slice ao m co).ownBlock → ((Value.slice ao m co).ownBlock = some gx ∨ w.heap.size ≤ gx) → wpList Try.prog ops Q rest (a.put o.dst (.slice (some ⟨gx, 0, none⟩) (m + 1) cx)) w') :
    wpList Try.prog ops Q (o :: rest) a (w.alloc (.cells #[r.v] 22)) := by
  obtain ⟨i0, hi, hz0, hz1, hz2⟩ := info_parts Try.info_rw
  have gA := World.grownBy_alloc w (.cells #[r.v] 22) none
  refine wpList_apS _ hg s x 81 22 i0 _ 1 24 Try.underlying81 hi hz0 hz1 hz2 rfl (by decide) hop (.slice ao m co) m (flatR rs) hs (hA.own.alloc _) ⟨w.heap.size, 0, none⟩ 1 1 [r.v] hx rfl (one_row w _) (by simp [Rw.v, Value.oneCell']) (by decide) (by unfold maxLen; omega) (by omega) ?_
  intro gx cx w' hgx hgr hown
  have hsz := gA.size
  have hor : (Value.slice ao m co).ownBlock = some gx ∨ w.heap.size ≤ gx := by
    rcases hgx with h | h
    · exact .inl h
    · exact .inr (by omega)
  have hgr' := grown_trans (grown_weak gA (Value.slice ao m co).ownBlock) hgr
  exact hK gx cx w' (OwR.push hA hr hap hgr' hown (by rcases hor with h | h; exact .inl h; exact .inr (by omega))) hgr' hor
/-- the same in a region that draws -/
theorem step_psR (w : World) (lo : Nat) (r : Rw) {ops : Array Oper} {o : Oper} {a : Act} {K : Act → World → Prop} {Q : Exit → Act → World → Prop} {E : Prop} (hg : o.guard = none) (s x : Operand)
    (hop : o.op = Op.call { callee := .builtin .append, args := #[s, x], argTypes := #[81, 81] }) (ao : Option Addr) (m co : Nat) (rs : List Rw) (hs : a.eval s = .slice ao m co)
    (hA : OwR w lo ao m co rs) (hlo : lo ≤ w.heap.size) (hx : a.eval x = .slice (some ⟨w.heap.size, 0, none⟩) 1 1) (hb : (m + 1) * 24 ≤ 140737488355328) (hr : Ans w lo r.a r.n r.c r.D) (hap : ∀ q, q ∈ rs → ∀ y, q.v.ownBlock = some y → r.v.ownBlock ≠ some y)
    (hK : ∀ gx cx w', OwR w' lo (some ⟨gx, 0, none⟩) (m + 1) cx (rs ++ [r]) → w.grownBy w' (Value.slice ao m co).ownBlock → ((Value.slice ao m co).ownBlock = some gx ∨ w.heap.size ≤ gx) → K (a.put o.dst (.slice (some ⟨gx, 0, none⟩) (m + 1) cx)) w') :
    if Region.wanted o (yielded ops a.tmps) = true then Oper.wp Try.prog o a (w.alloc (.cells #[r.v] 22)) K Q else E := by
  obtain ⟨i0, hi, hz0, hz1, hz2⟩ := info_parts Try.info_rw
  have gA := World.grownBy_alloc w (.cells #[r.v] 22) none
  refine step_apS _ hg s x 81 22 i0 _ 1 24 Try.underlying81 hi hz0 hz1 hz2 rfl (by decide) hop (.slice ao m co) m (flatR rs) hs (hA.own.alloc _) ⟨w.heap.size, 0, none⟩ 1 1 [r.v] hx rfl (one_row w _) (by simp [Rw.v, Value.oneCell']) (by decide) (by unfold maxLen; omega) (by omega) ?_
  intro gx cx w' hgx hgr hown
  have hsz := gA.size
  have hor : (Value.slice ao m co).ownBlock = some gx ∨ w.heap.size ≤ gx := by
    rcases hgx with h | h
    · exact .inl h
    · exact .inr (by omega)
  have hgr' := grown_trans (grown_weak gA (Value.slice ao m co).ownBlock) hgr
  exact hK gx cx w' (OwR.push hA hr hap hgr' hown (by rcases hor with h | h; exact .inl h; exact .inr (by omega))) hgr' hor
theorem Ans.later2 {w : World} {lo lo' : Nat} {a a' : Option Addr} {n c n' c' : Nat} {L L' : List Nat} (h : Ans w lo a n c L) {w' : World} (h' : Ans w' lo' a' n' c' L') (hl : w.heap.size ≤ lo') : ∀ y, (Value.slice a n c).ownBlock = some y → (Value.slice a' n' c').ownBlock ≠ some y := fun y e e' => by
  have h1 := h'.new y e'
  rcases h.cases with ⟨e1, _, _⟩ | ⟨x, e1, _, hx⟩
  · rw [e1] at e; simp [Value.ownBlock] at e
  · rw [e1] at e
    have e2 : x = y := Option.some.inj e
    omega

theorem stc_queues (g i : Nat) (p : Option Addr) (l c : Nat) (w : World) (hc : ∃ u, w.cell? ⟨g, i, none⟩ = some u) (hf : w.frozen? ⟨g, i, none⟩ = false) : (Instr.storeAt 36 (.pointer (some ⟨g, i, none⟩)) (.slice p l c)).run Try.prog w = .ok () (w.setCell ⟨g, i, none⟩ (.slice p l c)) := by
  obtain ⟨u, hc⟩ := hc
  simp [go_sem, hc, hf]

set_option maxHeartbeats 32000000 in
theorem so_t6 {u0 u1 u2 u4 u6 u7 u8 u9 u10 u11 u12 u13 u14 u15 u16 u17 u18 u19 u20 u21 u22 u23 u24 u25 u26 u27 u28 u29 u30 u31 u32 u33 u34 u35 u36 u37 u38 u39 u40 u41 u42 u43 u44 : Value} (Q : Exit → Act → World → Prop) (w0 w : World) (lo g5 k co pn pc : Nat) (ao pa : Option Addr) (qs : List Qw) (ow go : Int) (R : Nat → Rw) (P : List (List Nat)) (G0 : w0.grownBy w none) (hlo : w0.heap.size ≤ lo) (hlw : lo ≤ g5) (b5 : BxS w g5 83 #[.int .i64 ow, .slice pa pn pc, .int .i64 go]) (hR : RdR w pa pn pc R) (hP : P.length = pn ∧ ∀ j, j < pn → (R j).D = P.getD j []) (hF : ∀ j, j < pn → (R j).n ≤ 140737488351232) (hpn : pn * 24 ≤ 140737488351232) (hO : OwQ w lo ao k co qs) (hlt : ∀ x, Qbl (.slice ao k co) qs x → x < g5) (hk : (k + 1) * 40 ≤ 140737488355328)
    (hQ : ∀ (z6 z7 z20 z21 z22 z23 z24 z25 z26 z27 z28 z29 z30 z31 z32 z33 z34 z35 z36 z37 z38 z39 z40 z41 : Value) (gx cx : Nat) (q : Qw) (w' : World), OwQ w' lo (some ⟨gx, 0, none⟩) (k + 1) cx (qs ++ [q]) → q.d = ⟨ow, go, P⟩ → w0.grownBy w' none → Q .normal (Act.mk (List.toArray (u0 :: u1 :: u2 :: (.slice (some ⟨gx, 0, none⟩) (k + 1) cx) :: u4 :: (.pointer (some ⟨g5, 0, none⟩)) :: z6 :: z7 :: u8 :: u9 :: u10 :: u11 :: u12 :: u13 :: u14 :: u15 :: u16 :: u17 :: u18 :: u19 :: z20 :: z21 :: z22 :: z23 :: z24 :: z25 :: z26 :: z27 :: z28 :: z29 :: z30 :: z31 :: z32 :: z33 :: z34 :: z35 :: z36 :: z37 :: z38 :: z39 :: z40 :: z41 :: u42 :: u43 :: u44 :: [])) []) w') :
    Code.wp Try.prog (tailR 6 (Try.f54.body.getD .skip)) Q (Act.mk (List.toArray (u0 :: u1 :: u2 :: (.slice ao k co) :: u4 :: (.pointer (some ⟨g5, 0, none⟩)) :: u6 :: u7 :: u8 :: u9 :: u10 :: u11 :: u12 :: u13 :: u14 :: u15 :: u16 :: u17 :: u18 :: u19 :: u20 :: u21 :: u22 :: u23 :: u24 :: u25 :: u26 :: u27 :: u28 :: u29 :: u30 :: u31 :: u32 :: u33 :: u34 :: u35 :: u36 :: u37 :: u38 :: u39 :: u40 :: u41 :: u42 :: u43 :: u44 :: [])) []) w := by
  let pq : Exit → Act → World → Prop := bodyPost Try.prog Try.f54 (fun _ _ => True)
  conv => enter [2]; whnf
  have HQ : Hid _ := hQ
  clear hQ
  have b5l := b5.lt
  have hle := hR.le
  have hmx := hR.max
  unfold maxLen at hmx
  refine wp_seq_k fun K1 hK1 => ?_
  have HK1 : Hid _ := hK1
  clear hK1
  go_wp2
  refine HK1.out _ _ ?_
  clear HK1
  refine wp_seq_k fun K2 hK2 => ?_
  have HK2 : Hid _ := hK2
  clear hK2
  go_wp2
  go_loopw [6, 7] (fun pv jv wr => ∃ (j : Nat) (rs : List Rw) (pa' : Option Addr) (pc' : Nat), jv = .int .i64 j ∧ j ≤ pn ∧ pv = .slice pa' j pc' ∧ OwR wr w.heap.size pa' j pc' rs ∧ (∀ i, i < j → (rs.getD i kr0).D = (R i).D) ∧ w.grownBy wr none) (fun _ jv _ => pn - (intOf jv).toNat)
  case atStart => exact ⟨0, [], none, 0, by go_num, Nat.zero_le _, rfl, OwR.nil _ _, (fun i h => absurd h (by omega)), World.grownBy.refl _ _⟩
  case round =>
    obtain ⟨j, rs, pa', pc', rfl, hj, rfl, hr, hd, hgr⟩ := hrel
    have b5r := b5.keep hgr (by simp)
    obtain ⟨x0, x1, x2⟩ := BxS.cell3 b5r
    have hlo2 := hgr.size
    by_cases hjl : j < pn
    · have h2 := hR.keep hgr
      obtain ⟨ba, oa, rfl, hba, ca⟩ := h2.at' (by omega)
      have d1 := ca j hjl
      have hrj := h2.data j hjl
      have f2 := hF j hjl
      have HD : Hid (∀ i, i < j → (rs.getD i kr0).D = (R i).D) := hd
      obtain ⟨Dk, hDk⟩ : ∃ Dk, Dk = (R j).D := ⟨_, rfl⟩
      rw [← hDk] at hrj
      have HDk : Hid (Dk = (R j).D) := hDk
      clear hDk
      generalize (R j).a = ak at *
      generalize (R j).n = nk at *
      generalize (R j).c = ck at *
      have l1 : (j : Int) < (pn : Int) := by omega
      clear ca h2 hd
      have t1 : True := trivial
      go_wp2_with (first
        | (at_builtin; have _t := t1; clear t1; refine wpList_joinZ (w := wr) rfl _ _ rfl none 0 0 wr.heap.size [] rfl (ans_nil _ _) (Nat.le_refl _) ak nk ck Dk rfl hrj (by omega) ?_; intro a2 c2 w2 hA2 g2; simp only [Nat.zero_add, List.nil_append] at hA2; have g2 : wr.grownBy w2 none := g2; have z2 := g2.size; have t2 : True := trivial)
        | (at_builtin; have _t := t2; clear t2; refine wpList_psR w2 w.heap.size ⟨a2, nk, c2, Dk⟩ rfl _ _ rfl pa' j pc' rs rfl (hr.keep g2) (by omega) rfl (by omega) (hA2.wide (by omega)) (fun q hq y e => (hr.each q hq).later2 hA2 (Nat.le_refl _) y e) ?_; intro gx cx w3 hO3 g3 hgx))
      have hll := hr.len
      go_roundw
      case rel =>
        refine ⟨j + 1, _, _, _, by go_num, by omega, rfl, hO3, fun i hi => ?_, grown_far (grown_trans hgr g2) g3 (fun q e => hr.new q e)⟩
        rw [List.getD_eq_getElem?_getD]
        by_cases e : i < j
        · rw [List.getElem?_append_left (by omega), ← List.getD_eq_getElem?_getD]
          exact HD.out i e
        · obtain rfl : i = j := by omega
          rw [List.getElem?_append_right (by omega), hll, Nat.sub_self]
          exact HDk.out
      case measure => simp [intOf]; omega
    · obtain rfl : j = pn := by omega
      have HD : Hid _ := hd
      clear hd
      go_wp2
      refine HK2.out _ _ ?_
      clear HK2
      have s0 : True := trivial
      refine wp_seq_k fun K3 hK3 => ?_
      have HK3 : Hid _ := hK3
      clear hK3
      clear x0 x1 x2
      go_wp2_with (have _t := s0; clear s0; refine wpList_stC _ rfl _ _ _ rfl g5 1 83 _ #[.int .i64 ow, .slice pa' j pc', .int .i64 go] (.slice pa' j pc') rfl rfl b5r (stc_rows _ _ _ _ _) (by show 1 < 3; decide) rfl ?_; intro w4 b4 u4)
      have hr4 := hr.fz (Fz.of1 u4) (fun x hx e => by have := ofr_lo hr hx; have e : x = g5 := e; omega)
      have hO4 := (hO.keep hgr).fz (Fz.of1 u4) (fun x hx e => by have := hlt x hx; have e : x = g5 := e; omega)
      have G4 := grown_far (grown_trans G0 hgr) u4 (fun q e => by have e := Option.some.inj e; omega)
      have z4 := u4.size
      obtain ⟨x0, x1, x2⟩ := BxS.cell3 b4
      refine HK3.out _ _ ?_
      clear HK3
      have s0 : True := trivial
      go_wp2_with (at_builtin; have _t := s0; clear s0; refine wpList_psQ w4 lo ⟨ow, pa', j, pc', go, rs⟩ rfl _ _ rfl ao k co qs rfl hO4 (by omega) rfl hk _ rfl (hr4.wide (by omega)) (fun q hq x hx e => by have := hlt x (.inr ⟨q, hq, hx⟩); have := ofr_lo hr4 e; omega) ?_; intro gx cx w5 hO5 g5' hgx)
      refine HQ.out _ _ _ _ _ _ _ _ _ _ _ _ _ _ _ _ _ _ _ _ _ _ _ _ gx cx ⟨ow, pa', j, pc', go, rs⟩ w5 hO5 ?_ (grown_far G4 g5' (fun q e => by have := hO4.new q e; omega))
      show Qd.mk ow go (rs.map Rw.D) = _
      rw [map_D_of rs P (by rw [hr.len]; exact hP.1.symm) (fun i hi => by rw [HD.out i (by omega), hP.2 i (by omega)])]

set_option maxHeartbeats 32000000 in
/-- the document's SenderOf -/
theorem senderOf_any (cr sz ma tu : Int) (a : Option Addr) (n c : Nat) (Qs : List Qd) (w : World) (h : RdS w a n c Qs) (hF : FitQ 140737488351232 Qs) (hN : ∀ q, q ∈ Qs → q.P.length * 24 ≤ 140737488351232) (hn : n * 40 ≤ 140737488351232) :
    Calls Try.prog 54 #[.agg #[.int .i64 cr, .int .i64 sz, .int .i64 ma, .int .i64 tu, .slice a n c]] w fun e w' => ∃ (a' : Option Addr) (c' : Nat) (qs' : List Qw), e = .returned (.agg #[.int .i64 cr, .int .i64 sz, .int .i64 ma, .int .i64 tu, .slice a' n c']) ∧ OwS w' w.heap.size a' n c' qs' Qs ∧ w.grownBy w' none := by
  have hlQ := h.len
  obtain ⟨F, hF1, hF2⟩ := h.ex
  have HF2 : Hid _ := hF2
  clear hF2
  have b0 := BxS.new w 38 #[.int .i64 cr, .int .i64 sz, .int .i64 ma, .int .i64 tu, .slice a n c]
  have g0 := World.grownBy_alloc w (.cells #[.int .i64 cr, .int .i64 sz, .int .i64 ma, .int .i64 tu, .slice a n c] 38) none
  generalize hw0 : w.alloc (.cells #[.int .i64 cr, .int .i64 sz, .int .i64 ma, .int .i64 tu, .slice a n c] 38) = w0 at b0 g0
  have hz0 : w0.heap.size = w.heap.size + 1 := by rw [← hw0]; simp
  have b1 := BxS.new w0 38 #[.int .i64 0, .int .i64 0, .int .i64 0, .int .i64 0, .slice none 0 0]
  have g1 := World.grownBy_alloc w0 (.cells #[.int .i64 0, .int .i64 0, .int .i64 0, .int .i64 0, .slice none 0 0] 38) none
  generalize hw1 : w0.alloc (.cells #[.int .i64 0, .int .i64 0, .int .i64 0, .int .i64 0, .slice none 0 0] 38) = w1 at b1 g1
  rw [hz0] at b1
  have sz1 : w.heap.size + 2 ≤ w1.heap.size := by rw [← hw1]; simp [hz0]
  have p0 := b0.keep g1 (by simp)
  have G1 := grown_trans g0 g1
  have hle := hF1.le
  have hmx := hF1.max
  unfold maxLen at hmx
  have i5 := Try.info_se
  have i3 := Try.info_qu3
  go_enter Try.func54, Try.ntmps54
  refine wp_seq_k fun K0 hK0 => ?_
  have HK0 : Hid _ := hK0
  clear hK0
  go_wp2
  refine HK0.out _ _ ?_
  clear HK0
  refine wp_seq_k fun K1 hK1 => ?_
  have HK1 : Hid _ := hK1
  clear hK1
  go_wp2
  refine HK1.out _ _ ?_
  clear HK1
  refine wp_seq_k fun K2 hK2 => ?_
  have HK2 : Hid _ := hK2
  clear hK2
  go_wp2
  go_loopw [3, 4] (fun lv iv wr => ∃ (k co : Nat) (ao : Option Addr) (qs : List Qw), iv = .int .i64 k ∧ k ≤ n ∧ lv = .slice ao k co ∧ OwQ wr w1.heap.size ao k co qs ∧ qs.map Qw.d = Qs.take k ∧ w1.grownBy wr none) (fun _ iv _ => n - (intOf iv).toNat)
  case atStart => exact ⟨0, 0, none, [], by go_num, Nat.zero_le _, rfl, OwQ.nil _ _, rfl, World.grownBy.refl _ _⟩
  case round =>
    obtain ⟨k, co, ao, qs, rfl, hk, rfl, hO, hd, hgr⟩ := hrel
    have q0 := p0.keep hgr (by simp)
    have q1 := b1.keep hgr (by simp)
    have Gr := grown_trans G1 hgr
    have zr := hgr.size
    obtain ⟨x0, x1, x2, x3, x4⟩ := BxS.cell5 q0
    by_cases hlk : k < n
    · have l1 : (k : Int) < (n : Int) := by omega
      have h2 := hF1.keep Gr
      obtain ⟨ba, oa, rfl, hba, ca⟩ := h2.at' (by omega)
      obtain ⟨y0, y1, y2⟩ := ca k hlk
      have hrk := h2.data k hlk
      obtain ⟨e1, e2, e3, e4⟩ := HF2.out k hlk
      have HE3 : Hid _ := e3
      have HE4 : Hid _ := e4
      have hm : Qs.getD k qd0 ∈ Qs := by rw [List.getD_eq_getElem?_getD, List.getElem?_eq_getElem (by omega)]; exact List.getElem_mem _
      have hfk := hF _ hm
      have hnk := hN _ hm
      have HD : Hid (qs.map Qw.d = Qs.take k) := hd
      have HT : Hid (Qs.take (k + 1) = Qs.take k ++ [Qs.getD k qd0]) := by show _ = _; rw [List.take_add_one, List.getD_eq_getElem?_getD, List.getElem?_eq_getElem (by omega)]; rfl
      have HQD : Hid (Qs.getD k qd0 = ⟨(F k).ow, (F k).go, (Qs.getD k qd0).P⟩) := by show _ = _; rw [e1, e2]
      clear hd ca h2 e1 e2 e3 e4
      refine wp_seq_k fun K5 hK5 => ?_
      have HK5 : Hid _ := hK5
      clear hK5
      go_wp2
      refine HK5.out _ _ ?_
      clear HK5
      refine wp_seq_k fun K6 hK6 => ?_
      have HK6 : Hid _ := hK6
      clear hK6
      refine wp_block ?_
      refine wp_seq_k fun K7 hK7 => ?_
      have HK7 : Hid _ := hK7
      clear hK7
      have bn := BxS.new wr 83 #[.int .i64 0, .slice none 0 0, .int .i64 0]
      have gn := World.grownBy_alloc wr (.cells #[.int .i64 0, .slice none 0 0, .int .i64 0] 83) none
      have s0 : True := trivial
      go_wp2_with (have _t := s0; clear s0; refine wpList_stX _ rfl _ (.tmp 5) (.tmp 19) rfl wr.heap.size _ _ rfl rfl bn i3 rfl (by simp [Value.oneCell']) ?_; intro w4 b4 u4)
      have Y4 := grown_far gn u4 (fun q e => by have e := Option.some.inj e; omega)
      have G4 := grown_trans hgr Y4
      refine HK7.out _ _ ?_
      clear HK7
      refine so_t6 _ w1 w4 w1.heap.size wr.heap.size k co (F k).n (F k).c ao (F k).a qs (F k).ow (F k).go (F k).R (Qs.getD k qd0).P G4 (Nat.le_refl _) zr b4 (hrk.keep Y4) ⟨HE3.out.symm, HE4.out⟩ (fun j hj => ?_) (by rw [HE3.out]; exact hnk) (hO.keep Y4) (fun x hx => (hO.hi hx).1) (by omega) ?_
      · have := (hrk.data j hj).len
        rw [← this, HE4.out j hj]
        exact hfk.at' j (by have := HE3.out; omega)
      · intro z6 z7 z20 z21 z22 z23 z24 z25 z26 z27 z28 z29 z30 z31 z32 z33 z34 z35 z36 z37 z38 z39 z40 z41 gx cx q w' hO' hq hg'
        simp only [Exit.inBlock, Exit.then]
        refine HK6.out _ _ ?_
        clear HK6
        have hwk : IntKind.i64.wrap ((k : Int) + 1) = (k : Int) + 1 := wrap_i64_in _ (by omega) (by omega)
        go_wp2
        go_roundw
        case rel => exact ⟨k + 1, cx, _, qs ++ [q], by go_num, by omega, rfl, hO', by rw [List.map_append, HD.out, HT.out, HQD.out, ← hq]; rfl, hg'⟩
        case measure => simp [intOf]; omega
    · obtain rfl : k = n := by omega
      have l1 : ¬ (k : Int) < (k : Int) := by omega
      have HD : Hid (qs.map Qw.d = Qs) := by show _ = _; rw [hd, List.take_of_length_le (by omega)]
      clear hd
      go_wp2
      refine HK2.out _ _ ?_
      clear HK2
      have s0 : True := trivial
      clear x0 x1 x2 x3 x4
      go_wp2_with (first
        | (have _t := s0; clear s0; refine wpList_stC _ rfl _ _ _ rfl w.heap.size 4 38 _ #[.int .i64 cr, .int .i64 sz, .int .i64 ma, .int .i64 tu, .slice ao k co] (.slice ao k co) rfl rfl q0 (stc_queues _ _ _ _ _) (by show 4 < 5; decide) rfl ?_; intro w4 b4 u4; obtain ⟨x0, x1, x2, x3, x4⟩ := BxS.cell5 b4; have q14 := q1.keep u4 (fun e => by have e := Option.some.inj e; omega); have s1 : True := trivial)
        | (have _t := s1; clear s1; refine wpList_stX _ rfl _ (.tmp 2) (.tmp 44) rfl (w.heap.size + 1) _ _ rfl rfl q14 i5 rfl (by simp [Value.oneCell']) ?_; intro w9 b9 u9))
      refine bodyPost_ret (kres1 rfl _ _ _ ⟨w.heap.size + 1, 0, none⟩ _ rfl (BxS.load (t := 38) b9 Try.underlying38 i5)) rfl ?_
      have hO9 := ((hO.far u4 (by omega)).far u9 (by omega)).wide (lo' := w.heap.size) (by omega)
      exact ⟨ao, co, qs, rfl, ⟨hO9, HD.out⟩, grown_far (grown_far Gr u4 (fun q e => by have e := Option.some.inj e; omega)) u9 (fun q e => by have e := Option.some.inj e; omega)⟩
end Go.Proofs.Ytlmddjkplnbadaa
