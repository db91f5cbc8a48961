import Derived.Test.YtdpgblojdppfeaaQI
namespace Go.Proofs.Ytdpgblojdppfeaa
open Go.RowKit
set_option maxRecDepth 100000
set_option linter.unusedVariables false
set_option linter.unusedSimpArgs false
theorem rdX_one (w : World) (e : TypeId) (v : Value) (h1 : v.oneCell' = true) : RdX (w.alloc (.cells #[v] e)) (some ⟨w.heap.size, 0, none⟩) 1 1 [v] := by
  refine ⟨rfl, Nat.le_refl _, by decide, (fun h => by cases h), ?_, fun _ => ⟨w.heap.size, 0, rfl, by simp, fun i u hu => ?_⟩⟩
  · intro u hu
    have e : u = v := by simpa using hu
    rw [e]; exact h1
  · rw [cell_of_row _ _ _ _ _ _ (heap_alloc_new w _), Nat.zero_add]
    simpa using hu
theorem wpList_psY {t e : TypeId} {z : Value} {by' : Nat} (E : ElT t e z by') (w : World) (u : Value) (h1 : u.oneCell' = true) {ops : Array Oper} {rest : List Oper} {o : Oper} {a : Act} {Q : Exit → Act → World → Prop} (hg : o.guard = none) (s x : Operand)
    (hop : o.op = Op.call { callee := .builtin .append, args := #[s, x], argTypes := #[t, t] }) (ao : Option Addr) (m co lo : Nat) (D : List Value) (hs : a.eval s = .slice ao m co)
    (hA : AnsX e w lo ao m co D) (hlo : lo ≤ w.heap.size) (hx : a.eval x = .slice (some ⟨w.heap.size, 0, none⟩) 1 1) (hb : (m + 1) * by' ≤ 140737488351400) (hb3 : m + 1 ≤ 140737488351400)
    (hK : ∀ gx cx w', AnsX e w' lo (some ⟨gx, 0, none⟩) (m + 1) cx (D ++ [u]) → w.grownBy w' (Value.slice ao m co).ownBlock → ((Value.slice ao m co).ownBlock = some gx ∨ w.heap.size ≤ gx) → wpList Try.prog ops Q rest (a.put o.dst (.slice (some ⟨gx, 0, none⟩) (m + 1) cx)) w') :
    wpList Try.prog ops Q (o :: rest) a (w.alloc (.cells #[u] e)) := by
  obtain ⟨i0, hi, hz0, hz1, hz2⟩ := info_parts E.inf
  have gA := World.grownBy_alloc w (.cells #[u] e) none
  have hR := rdX_one w e u h1
  have hpos := E.pos
  refine wpList_apS _ hg s x t e i0 z 1 by' E.und hi hz0 hz1 hz2 E.one (by decide) hop (.slice ao m co) m D hs (hA.own.alloc _) ⟨w.heap.size, 0, none⟩ 1 1 [u] hx rfl ?_ hR.one (by decide) (by unfold maxLen; omega) (by omega) ?_
  · intro j v hv
    obtain ⟨b, off, e', _, hc⟩ := hR.at' (by decide)
    cases e'
    rw [addr_add]
    exact hc j v hv
  · intro g c w' hgx hgr hown
    have hsz := gA.size
    refine hK g c w' ⟨hown, ?_, fun y hy => ?_⟩ (grown_trans (grown_weak gA _) hgr) ?_
    · intro v hv
      rcases List.mem_append.1 hv with h | h
      · exact hA.one v h
      · exact hR.one v h
    · have e' : g = y := Option.some.inj hy
      subst e'
      rcases hgx with h | h
      · exact hA.new g h
      · omega
    · rcases hgx with h | h
      · exact .inl h
      · exact .inr (by omega)
theorem over2_any (mk : Int) (a : Option Addr) (n cap lo : Nat) (S : List Int) (w : World) (h : AnsX 3 w lo a n cap (zys S)) (hn : n ≤ 17592186043904) :
    Calls Try.prog 12 #[.slice a n cap, .int .i64 mk] w fun e w' => e = .returned (.tuple #[]) ∧ w.grownBy w' (Value.slice a n cap).ownBlock := by
  have hm2 := h.max
  unfold maxLen at hm2
  go_enter Try.func12, Try.ntmps12
  go_wp2
  go_loopw [4] (fun i wr => ∃ (k : Nat) (X : List Value), k ≤ n ∧ i = .int .i64 k ∧ w.grownBy wr (Value.slice a n cap).ownBlock ∧ AnsX 3 wr lo a n cap X) (fun i _ => n - (intOf i).toNat)
  case atStart => exact ⟨0, _, by omega, rfl, World.grownBy.refl _ _, h⟩
  case round =>
    obtain ⟨k, X, hk, rfl, hgr, hA⟩ := hrel
    by_cases hlt : k < n
    · have hlt' : (k : Int) < (n : Int) := by omega
      rcases hA.cases with ⟨_, h0, _⟩ | ⟨g, e, _, _⟩
      · omega
      subst e
      have hc := hA.cell k _ (List.getElem?_eq_getElem (by rw [hA.len]; exact hlt))
      have hf := hA.free k
      have R := hA.set k (.int .i64 mk) rfl
      go_wp2
      go_roundw
      case rel => exact ⟨k + 1, _, by omega, by go_num, grown_trans hgr (grown_set _ _ _ _), R⟩
      case measure => simp [intOf]; omega
    · have hlt' : ¬ (k : Int) < (n : Int) := by omega
      go_wp2
      go_loopw [0, 5] (fun v i wq => ∃ (q : Nat) (b : Option Addr) (m c : Nat) (Y : List Value), q ≤ 20 ∧ m = n + q ∧ i = .int .i64 q ∧ v = .slice b m c ∧ w.grownBy wq (Value.slice a n cap).ownBlock ∧ AnsX 3 wq 0 b m c Y ∧ (∀ y, (Value.slice b m c).ownBlock = some y → (Value.slice a n cap).ownBlock = some y ∨ w.heap.size ≤ y)) (fun _ i _ => 20 - (intOf i).toNat)
      case atStart => exact ⟨0, a, n, cap, X, by omega, rfl, rfl, rfl, hgr, hA.low (Nat.zero_le _), fun y hy => .inl hy⟩
      case round =>
        obtain ⟨q, b, m, c, Y, hq, hmq, rfl, rfl, hgq, hY, hb⟩ := hrel
        by_cases hlq : q < 20
        · have hlq' : (q : Int) < 20 := by omega
          have hsz := hgq.size
          go_wp2_with (at_builtin; refine wpList_psY Try.elI wr (.int .i64 mk) rfl rfl _ _ rfl b m c 0 Y rfl hY (Nat.zero_le _) rfl (by omega) (by omega) ?_; intro gx cx w2 hA2 hg2 hx2)
          go_roundw
          case rel =>
            refine ⟨q + 1, some ⟨gx, 0, none⟩, m + 1, cx, _, by omega, by omega, by go_num, by rw [hmq], ?_, hA2, ?_⟩
            · cases hbo : (Value.slice b m c).ownBlock with
              | none => rw [hbo] at hg2; exact grown_trans hgq (grown_weak hg2 _)
              | some y => rw [hbo] at hg2; exact grown_new hgq hg2 (hb y hbo)
            · intro y hy
              have e : gx = y := Option.some.inj hy
              subst e
              rcases hx2 with h | h
              · exact hb gx h
              · exact .inr (by omega)
          case measure => simp [intOf]; omega
        · have hlq' : ¬ (q : Int) < 20 := by omega
          go_wp2
          go_end0
          exact ⟨rfl, hgq⟩
theorem run_stKey (w : World) (g o : Nat) (v0 v1 v2 v3 : Value) (h1 : ∀ v, v ∈ [v0, v1, v2, v3] → v.oneCell' = true) (hc : ∀ j, j < 4 → (w.cell? ⟨g, o + j, none⟩).isSome = true) (hf : ∀ j, j < 4 → w.frozen? ⟨g, o + j, none⟩ = false) :
    (Instr.storeAt 27 (.pointer (some ⟨g, o, none⟩)) (.agg #[v0, v1, v2, v3])).run Try.prog w = .ok () (w.setCells g o [v0, v1, v2, v3]) := by
  have hst := run_storeCells_cells (P := Try.prog) g o [v0, v1, v2, v3] 0 w (by simpa using hc) (by simpa using hf) h1
  simp only [Nat.add_zero] at hst
  have i4 := Try.info_ky4
  cases hq : Try.prog.info? 27 with
  | none => simp [hq] at i4
  | some i =>
    have hs : 4 = i.size := by simp [hq] at i4; omega
    simp [Instr.storeAt, Instr.sureAddr, storeVar, sizeOf, typeInfo, hq, Value.cells, ← hs, hst]
/-- a key is written over -/
def kw7 : Kw := ⟨-7, none, 0, 0, [], 0, 0⟩
theorem kw7_ok : I64 kw7.id ∧ I64 kw7.tp ∧ I64 kw7.sn := by unfold I64 kw7; exact ⟨⟨by decide, by decide⟩, ⟨by decide, by decide⟩, ⟨by decide, by decide⟩⟩
theorem setCells_own {g n cap : Nat} {ks : List Kw} {w : World} (h : w.ownsRow 0 27 4 (.slice (some ⟨g, 0, none⟩) n cap) n (flK ks)) (hl : ks.length = n) (i : Nat) (hi : i < n) (q : Kw) : (w.setCells g (i * 4) q.cells).ownsRow 0 27 4 (.slice (some ⟨g, 0, none⟩) n cap) n (flK (ks.set i q)) ∧ w.grownBy (w.setCells g (i * 4) q.cells) (some g) := by
  have hsp : ∀ (vs : List Value) (o : Nat) (w : World) (X : List Value), w.ownsRow 0 27 4 (.slice (some ⟨g, 0, none⟩) n cap) n X → o + vs.length ≤ n * 4 → (w.setCells g o vs).ownsRow 0 27 4 (.slice (some ⟨g, 0, none⟩) n cap) n (X.take o ++ vs ++ X.drop (o + vs.length)) ∧ w.grownBy (w.setCells g o vs) (some g) := by
    intro vs
    induction vs with
    | nil =>
      intro o w X h ho
      refine ⟨?_, World.grownBy.refl _ _⟩
      rw [List.append_nil, List.length_nil, Nat.add_zero, List.take_append_drop]
      exact h
    | cons v vs ih =>
      intro o w X h ho
      rw [List.length_cons] at ho
      have hX := h.1
      have h1 : (w.setCell ⟨g, o, none⟩ v).ownsRow 0 27 4 (.slice (some ⟨g, 0, none⟩) n cap) n (X.set o v) := by
        refine ⟨by rw [List.length_set]; exact h.1, ?_⟩
        rcases h.2 with ⟨h1, _⟩ | ⟨g', cap', cur, h1, h2, h3, h4, h5, h6, h7⟩
        · simp at h1
        · simp only [Value.slice.injEq, Option.some.injEq, Addr.mk.injEq] at h1
          obtain ⟨⟨rfl, _⟩, _, rfl⟩ := h1
          refine .inr ⟨g, cap, cur.setIfInBounds o v, rfl, h2, heap_setCell_same w g o _ _ _ h3, h4, h5, by simpa using h6, ?_⟩
          rw [← h7, Array.toList_setIfInBounds, List.take_set]
      obtain ⟨k1, k2⟩ := ih (o + 1) _ _ h1 (by omega)
      refine ⟨?_, grown_trans (grown_set w g o v) k2⟩
      have e : (X.set o v).take (o + 1) ++ vs ++ (X.set o v).drop (o + 1 + vs.length) = X.take o ++ (v :: vs) ++ X.drop (o + (v :: vs).length) := by
        rw [List.drop_set_of_lt (by omega), List.take_add_one, List.take_set_of_le (Nat.le_refl _), List.getElem?_set_self (by omega), List.length_cons, show o + 1 + vs.length = o + (vs.length + 1) by omega]
        simp
      rw [← e]
      exact k1
  obtain ⟨k1, k2⟩ := hsp q.cells (i * 4) w _ h (by show i * 4 + 4 ≤ _; omega)
  refine ⟨?_, k2⟩
  have e : flK (ks.set i q) = (flK ks).take (i * 4) ++ q.cells ++ (flK ks).drop (i * 4 + q.cells.length) := by
    rw [flK_take, show i * 4 + q.cells.length = (i + 1) * 4 by show i * 4 + 4 = _; omega, flK_drop, List.set_eq_take_append_cons_drop, if_pos (by omega), flK_app]
    show flK (ks.take i) ++ (q.cells ++ flK (ks.drop (i + 1))) = _
    rw [List.append_assoc]
  rw [e]
  exact k1
theorem OwK.row_ne {w : World} {lo g n c : Nat} {qs : List Kw} (h : OwK w lo (some ⟨g, 0, none⟩) n c qs) {k : Kw} (hk : AnsZ w lo k.a k.n k.c k.W) : k.v.ownBlock ≠ some g := by
  intro e
  rcases h.own.2 with ⟨h1, _⟩ | ⟨y, cap', cur, h1, _, hh, _⟩
  · simp at h1
  · simp only [Value.slice.injEq, Option.some.injEq, Addr.mk.injEq] at h1
    obtain ⟨⟨rfl, _⟩, _, rfl⟩ := h1
    exact hk.box hh (by decide) e
theorem OwK.setOver {w w1 w2 : World} {lo g n c k : Nat} {qs : List Kw} {kk : Kw} (h : OwK w lo (some ⟨g, 0, none⟩) n c qs) (hi : qs[k]? = some kk) (u1 : w.grownBy w1 kk.v.ownBlock) (ho : w2.ownsRow 0 27 4 (.slice (some ⟨g, 0, none⟩) n c) n (flK (qs.set k kw7))) (u2 : w1.grownBy w2 (some g)) : OwK w2 lo (some ⟨g, 0, none⟩) n c (qs.set k kw7) := by
  have hkl := (List.getElem?_eq_some_iff.1 hi).1
  have hkk : qs[k] = kk := (List.getElem?_eq_some_iff.1 hi).2
  have hpw := List.pairwise_iff_getElem.1 h.apart
  have hne : ∀ i (hil : i < qs.length), i ≠ k → ∀ y, qs[i].v.ownBlock = some y → kk.v.ownBlock ≠ some y := by
    intro i hil hik y hy e
    by_cases hlt : i < k
    · exact hpw i k hil hkl hlt y hy (by rw [hkk]; exact e)
    · exact hpw k i hkl hil (by omega) y (by rw [hkk]; exact e) hy
  refine ⟨ho, by rw [List.length_set]; exact h.len, h.new, fun q hq => ?_, fun q hq => ?_, List.pairwise_iff_getElem.2 (fun i j hil hjl hij y hy e => ?_)⟩
  · obtain ⟨i, hil, rfl⟩ := List.mem_iff_getElem.1 hq
    rw [List.length_set] at hil
    by_cases hik : i = k
    · subst hik
      rw [List.getElem_set_self]
      exact ansZ_nil _ _
    · rw [List.getElem_set_ne (fun e => hik e.symm)]
      have hA := h.each qs[i] (List.getElem_mem _)
      have hB := hA.kept u1 (by
        cases e : (Value.slice qs[i].a qs[i].n qs[i].c).ownBlock with
        | none => exact .inl rfl
        | some y => exact .inr (fun e2 => hne i hil hik y e e2.symm))
      exact hB.kept u2 (by
        cases e : (Value.slice qs[i].a qs[i].n qs[i].c).ownBlock with
        | none => exact .inl rfl
        | some y => exact .inr (fun e2 => h.row_ne hA (by show (Value.slice qs[i].a qs[i].n qs[i].c).ownBlock = _; rw [e, e2])))
  · rcases List.mem_or_eq_of_mem_set hq with hq | rfl
    · exact h.bd q hq
    · exact kw7_ok
  · rw [List.length_set] at hil hjl
    by_cases hik : i = k
    · subst hik
      rw [List.getElem_set_self] at hy
      simp [kw7, Kw.v, Value.ownBlock] at hy
    · by_cases hjk : j = k
      · subst hjk
        rw [List.getElem_set_self] at e
        simp [kw7, Kw.v, Value.ownBlock] at e
      · rw [List.getElem_set_ne (fun e => hik e.symm)] at hy
        rw [List.getElem_set_ne (fun e => hjk e.symm)] at e
        exact hpw i j hil hjl hij y hy e
/-- a key is stored into a row of them -/
theorem wpList_stK (w : World) {ops : Array Oper} {rest : List Oper} {o : Oper} {a : Act} {Q : Exit → Act → World → Prop} (hg : o.guard = none) (p x : Operand) (hop : o.op = Op.store 27 p x)
    (g i n cap : Nat) (qs : List Kw) (q : Kw) (hp : a.eval p = .pointer (some ⟨g, i * 4, none⟩)) (hx : a.eval x = .agg #[.int .i64 q.id, .slice q.a q.n q.c, .int .i64 q.tp, .int .i64 q.sn]) (h : w.ownsRow 0 27 4 (.slice (some ⟨g, 0, none⟩) n cap) n (flK qs)) (hl : qs.length = n) (hi : i < n)
    (hK : ∀ w', w'.ownsRow 0 27 4 (.slice (some ⟨g, 0, none⟩) n cap) n (flK (qs.set i q)) → w.grownBy w' (some g) → wpList Try.prog ops Q rest (a.put o.dst undef) w') :
    wpList Try.prog ops Q (o :: rest) a w := by
  refine wpList_plain hg fun K hK' => ?_
  obtain ⟨k1, k2⟩ := setCells_own h hl i hi q
  have hst : (Instr.storeAt 27 (.pointer (some ⟨g, i * 4, none⟩)) (.agg #[.int .i64 q.id, .slice q.a q.n q.c, .int .i64 q.tp, .int .i64 q.sn])).run Try.prog w = .ok () (w.setCells g (i * 4) q.cells) := by
    rcases h.2 with ⟨h1, _⟩ | ⟨g', cap', cur, h1, _, h3, h4, _, h6, _⟩
    · simp at h1
    · simp only [Value.slice.injEq, Option.some.injEq, Addr.mk.injEq] at h1
      obtain ⟨⟨rfl, _⟩, _, rfl⟩ := h1
      refine run_stKey w g (i * 4) _ _ _ _ (by intro v hv; simp only [List.mem_cons, List.not_mem_nil, or_false] at hv; rcases hv with rfl | rfl | rfl | rfl <;> rfl) (fun j hj => ?_) (fun j hj => frozen_of_row w g _ _ _ h3)
      rw [cell_of_row _ _ _ _ _ _ h3, Array.getElem?_eq_getElem (by omega)]
      rfl
  unfold Oper.wp
  simp [execOp, hop, hp, hx, hst, Result.andThen]
  exact hK' _ _ (hK _ k1 k2)
set_option maxHeartbeats 32000000 in
theorem overRing_any (a : Option Addr) (n c lo : Nat) (ks : List Kw) (R : List Kd) (w : World) (h : OwG w lo a n c ks R) (hF : ∀ k, k ∈ R → k.W.length ≤ 17592186043904) (hn : n * 48 ≤ 140737488351232) :
    Calls Try.prog 25 #[.agg #[.slice a n c]] w fun e w' => e = .returned (.tuple #[]) ∧ Fz (Okb (.slice a n c) ks) w w' := by
  have hl := h.o.len
  have b0 := BxS.new w 24 #[.slice a n c]
  have g0 := World.grownBy_alloc w (.cells #[.slice a n c] 24) none
  generalize hw0 : w.alloc (.cells #[.slice a n c] 24) = w0 at b0 g0
  have hmm : maxLen ≤ 9223372036854775807 := by decide
  have hmx := h.o.max
  have F0 : Fz (Okb (.slice a n c) ks) w w0 := (Fz.refl _ w).step g0 (fun k e _ => by cases e)
  go_enter Try.func25, Try.ntmps25
  go_wp2
  go_loopw [2] (fun iv wr => ∃ (k : Nat) (qs : List Kw), iv = .int .i64 k ∧ k ≤ n ∧ OwK wr lo a n c qs ∧ (∀ i, k ≤ i → qs[i]? = ks[i]?) ∧ (∀ q, q ∈ qs → q ∈ ks ∨ q = kw7) ∧ BxS wr w.heap.size 24 #[.slice a n c] ∧ Fz (Okb (.slice a n c) ks) w wr) (fun iv _ => n - (intOf iv).toNat)
  case atStart => exact ⟨0, ks, by go_num, Nat.zero_le _, h.o.keep g0, fun _ _ => rfl, fun q hq => .inl hq, b0, F0⟩
  case round =>
    obtain ⟨k, qs, rfl, hk, hO, hsame, hin, hB, Fr⟩ := hrel
    have x0 : wr.cell? ⟨w.heap.size, 0, none⟩ = some (.slice a n c) := hB.cell 0 (by show 0 < 1; decide)
    have hlq := hO.len
    by_cases hlt : k < n
    · have hlt' : (k : Int) < (n : Int) := by omega
      obtain ⟨g, rfl⟩ := hO.someK (by omega)
      obtain ⟨kk, hi⟩ : ∃ kk, qs[k]? = some kk := ⟨_, List.getElem?_eq_getElem (by omega)⟩
      have hm : kk ∈ qs := List.mem_of_getElem? hi
      have hmk : kk ∈ ks := List.mem_of_getElem? ((hsame k (Nat.le_refl _)).symm.trans hi)
      obtain ⟨t0, t1, t2, t3⟩ := hO.rd.four hi
      rw [Nat.zero_add] at t0 t1 t2 t3
      have hW := hO.each kk hm
      have hwn : kk.n ≤ 17592186043904 := by
        have := hF kk.d (by rw [← h.d]; exact List.mem_map_of_mem hmk)
        rw [← hW.len]; exact this
      have kO := over2_any (-7) kk.a kk.n kk.c lo kk.W wr hW.x hwn
      have hwk : IntKind.i64.wrap ((k : Int) + 1) = (k : Int) + 1 := wrap_i64_in _ (by omega) (by omega)
      have hgo : Okb (.slice (some ⟨g, 0, none⟩) n c) ks g := .inl rfl
      have s0 : True := trivial
      go_wp2_with (first
        | (go_at_call 12; have _t := s0; clear s0; refine kO.mono ?_; rintro e w5 ⟨rfl, u5⟩; have hB5 := hB.keep u5 (fun e => hW.box hB (by decide) e.symm); have x5 : w5.cell? ⟨w.heap.size, 0, none⟩ = some (.slice (some ⟨g, 0, none⟩) n c) := hB5.cell 0 (by show 0 < 1; decide); clear x0 t0 t1 t2 t3; have s1 : True := trivial)
        | (have _t := s1; clear s1; refine wpList_stK w5 rfl _ _ rfl g k n c qs kw7 rfl rfl (hO.own.kept u5 (.inr (fun e => hO.row_ne hW e.symm))) hlq hlt ?_; intro w6 ho6 u6))
      have hO6 := hO.setOver hi u5 ho6 u6
      have hB6 := hB5.keep u6 (fun e => by have e := Option.some.inj e; have := (h.o.hi hgo).1; omega)
      have F6 := (Fr.step u5 (fun y e _ => .inr ⟨kk, hmk, e⟩)).step u6 (fun y e _ => by have e := Option.some.inj e; subst e; exact hgo)
      go_roundw
      case rel =>
        refine ⟨k + 1, _, by go_num, by omega, hO6, fun i hik => ?_, fun q hq => ?_, hB6, F6⟩
        · rw [List.getElem?_set_ne (by omega)]
          exact hsame i (by omega)
        · rcases List.mem_or_eq_of_mem_set hq with hq | hq
          · exact hin q hq
          · exact .inr hq
      case measure => simp [intOf]; omega
    · have hlt' : ¬ (k : Int) < (n : Int) := by omega
      obtain rfl : k = n := by omega
      go_wp2_with (at_builtin; refine wpList_psK wr 0 ⟨-8, none, 0, 0, [], 0, 0⟩ rfl _ _ rfl a k c qs rfl (hO.wide (Nat.zero_le _)) (Nat.zero_le _) rfl (by omega) _ rfl (ansZ_nil _ _) (by unfold I64; exact ⟨⟨by decide, by decide⟩, ⟨by decide, by decide⟩, ⟨by decide, by decide⟩⟩) (fun q hq y hy e => by simp [Kw.v, Value.ownBlock] at e) ?_; intro gx cx w9 hO9 u9 hgx)
      go_end0
      exact ⟨rfl, Fr.step u9 (fun y e _ => .inl e)⟩
end Go.Proofs.Ytdpgblojdppfeaa
