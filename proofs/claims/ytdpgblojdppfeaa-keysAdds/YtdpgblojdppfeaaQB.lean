import Derived.Test.YtdpgblojdppfeaaQA
namespace Go.Proofs.Ytdpgblojdppfeaa
open Go.RowKit
set_option maxRecDepth 100000
set_option linter.unusedVariables false
set_option linter.unusedSimpArgs false
theorem results_cell1 {fn : Func} {p : Tmp} {ty : TypeId} (h : fn.results = #[.cell p ty]) (tmps : Array Value) (P : Program) (w : World) (a : Addr) (v : Value) (ha : tmps.getD p undef = .pointer (some a)) (hl : (loadVar ty a).run P w = .ok v w) :
    (results fn tmps).run P w = .ok v w := by
  simp only [results, h]
  rw [Array.getD_eq_getD_getElem?] at ha
  simp [Sem.run_bind, Result.andThen]
  rw [ha]
  simp [asAddr, hl]

set_option maxHeartbeats 1000000 in
theorem sameKey_any (id : Int) (a b : Option Addr) (n cap cap' : Nat) (top seen : Int) (S : List Int) (w : World) (ha : RdI w a n cap S) (hb : RdI w b n cap' S) :
    Calls Try.prog 10 #[kyV id a n cap top seen, kyV id b n cap' top seen] w fun e w' => e = .returned (.bool true) ∧ w.grownBy w' none := by
  have gA := grown_trans (World.grownBy_alloc w (.cells #[.int .i64 id, .slice a n cap, .int .i64 top, .int .i64 seen] 27) none) (World.grownBy_alloc _ (.cells #[.int .i64 id, .slice b n cap', .int .i64 top, .int .i64 seen] 27) none)
  have hS := sameInts_any a b n n cap cap' S _ (ha.keep gA) (hb.keep gA)
  have bx0 : ((w.alloc (.cells #[.int .i64 id, .slice a n cap, .int .i64 top, .int .i64 seen] 27)).alloc (.cells #[.int .i64 id, .slice b n cap', .int .i64 top, .int .i64 seen] 27)).heap[w.heap.size]? = some (.cells #[.int .i64 id, .slice a n cap, .int .i64 top, .int .i64 seen] 27) := by
    rw [(World.grownBy_alloc (w.alloc _) _ none).block w.heap.size (by simp) (by simp)]; exact heap_alloc_new w _
  have bx1 : ((w.alloc (.cells #[.int .i64 id, .slice a n cap, .int .i64 top, .int .i64 seen] 27)).alloc (.cells #[.int .i64 id, .slice b n cap', .int .i64 top, .int .i64 seen] 27)).heap[w.heap.size + 1]? = some (.cells #[.int .i64 id, .slice b n cap', .int .i64 top, .int .i64 seen] 27) := by
    have := heap_alloc_new (w.alloc (.cells #[.int .i64 id, .slice a n cap, .int .i64 top, .int .i64 seen] 27)) (.cells #[.int .i64 id, .slice b n cap', .int .i64 top, .int .i64 seen] 27)
    simpa using this
  go_enter Try.func10, Try.ntmps10
  go_wp2_with (go_at_call 26; refine hS.mono ?_; rintro e w3 ⟨rfl, g3⟩; have hx0 : w3.heap[w.heap.size]? = _ := (g3.block _ (by simp; omega) (by simp)).trans bx0; have hx1 : w3.heap[w.heap.size + 1]? = _ := (g3.block _ (by simp) (by simp)).trans bx1; have k02 : w3.cell? ⟨w.heap.size, 2, none⟩ = some (.int .i64 top) := (by rw [cell_of_row _ _ _ _ _ _ hx0]; rfl); have k03 : w3.cell? ⟨w.heap.size, 3, none⟩ = some (.int .i64 seen) := (by rw [cell_of_row _ _ _ _ _ _ hx0]; rfl); have k12 : w3.cell? ⟨w.heap.size + 1, 2, none⟩ = some (.int .i64 top) := (by rw [cell_of_row _ _ _ _ _ _ hx1]; rfl); have k13 : w3.cell? ⟨w.heap.size + 1, 3, none⟩ = some (.int .i64 seen) := (by rw [cell_of_row _ _ _ _ _ _ hx1]; rfl))
  go_ret
  exact ⟨rfl, grown_trans gA g3⟩
/-- 'append([]int(nil), x...)' whatever x is -/
theorem wpList_cpI (w : World) {ops : Array Oper} {rest : List Oper} {o : Oper} {a : Act} {Q : Exit → Act → World → Prop} (hg : o.guard = none) (s x : Operand)
    (hop : o.op = Op.call { callee := .builtin .append, args := #[s, x], argTypes := #[25, 25] }) (hs : a.eval s = .slice none 0 0) (xa : Option Addr) (n cap : Nat) (S : List Int) (hx : a.eval x = .slice xa n cap) (hp : RdI w xa n cap S) (hn : n ≤ 17592186044000)
    (hK : ∀ a' c' w', AnsZ w' w.heap.size a' n c' S → w.grownBy w' none → wpList Try.prog ops Q rest (a.put o.dst (.slice a' n c')) w') :
    wpList Try.prog ops Q (o :: rest) a w := by
  have hm1 := hp.le; have hm2 := hp.max
  unfold maxLen at hm2
  by_cases h0 : 0 < n
  · obtain ⟨b, off, e, hbw, hcc⟩ := hp.at' h0
    subst e
    have hl : (zys S).length = n := by rw [zys_length, hp.len]
    have hc : ∀ j u, (zys S)[j]? = some u → w.cell? ((⟨b, off, none⟩ : Addr).add j) = some u := by
      intro j u hu
      have hj : j < S.length := by
        have := (List.getElem?_eq_some_iff.1 hu).1
        rw [zys_length] at this; exact this
      rw [zys_at S j hj] at hu
      rw [← hu, addr_add]
      exact hcc j (by rw [← hp.len]; exact hj)
    refine wpList_apI _ hg _ _ hop (.slice none 0 0) 0 [] hs (World.ownsRow_nil _ _ _ _) ⟨b, off, none⟩ n cap (zys S) hx hl hc (zys_one S) h0 (by omega) ?_
    intro g c w1 hg1 hgr1 hown1
    simp only [Nat.zero_add, List.nil_append] at hown1 ⊢
    have hgl : w.heap.size ≤ g := by
      rcases hg1 with h | h
      · simp [Value.ownBlock] at h
      · exact h
    refine hK _ _ _ ⟨hown1, fun g' h => ?_⟩ hgr1
    have e : g = g' := Option.some.inj h
    omega
  · obtain rfl : n = 0 := by omega
    have hS : S = [] := List.eq_nil_of_length_eq_zero hp.len
    subst hS
    obtain ⟨i0, hi, hz0, hz1, hz2⟩ := info_parts Try.info_int
    cases xa with
    | none =>
      have hc0 : cap = 0 := hp.nil rfl
      subst hc0
      refine wpList_append_own_none hg _ _ 25 hop 0 3 i0 1 Try.underlying25 hi (.slice none 0 0) 0 [] hs (World.ownsRow_nil _ _ _ _) hx ?_
      exact hK _ _ _ (ansZ_nil _ _) (World.grownBy.refl _ _)
    | some ad =>
      refine wpList_append_own w hg _ _ 25 hop w.heap.size 3 i0 (.int .i64 0) 1 8 Try.underlying25 hi hz0 hz1 hz2 rfl (by decide) (.slice none 0 0) 0 [] hs (World.ownsRow_nil _ _ _ _) ad 0 cap [] hx rfl (fun j u h => by simp at h) (fun u h => by simp at h) (by unfold maxLen; omega) (by omega) (Nat.le_refl _) ?_
      intro v' w' hown' hgr hnil
      have hv : v' = .slice none 0 0 := hnil.2 ⟨rfl, rfl⟩
      subst hv
      exact hK _ _ _ (ansZ_nil _ _) hgr
theorem map_d_at {ks : List Kw} {R : List Kd} (h : ks.map Kw.d = R) (i : Nat) (hi : i < ks.length) : ∃ k, ks[i]? = some k ∧ R[i]? = some k.d := by
  refine ⟨_, List.getElem?_eq_getElem hi, ?_⟩
  rw [← h, List.getElem?_map, List.getElem?_eq_getElem hi]; rfl
set_option maxHeartbeats 16000000 in
theorem sameRing_any (a b : Option Addr) (n m c c' : Nat) (R : List Kd) (w : World) (h : RdG w a n c R) (hk2 : RdG w b m c' R) :
    Calls Try.prog 13 #[.agg #[.slice a n c], .agg #[.slice b m c']] w fun e w' => e = .returned (.bool true) ∧ w.grownBy w' none := by
  obtain rfl : n = m := by rw [← h.len, hk2.len]
  obtain ⟨ks, h1, h2⟩ := h.ex
  obtain ⟨ls, k1, k2⟩ := hk2.ex
  have hl1 := h1.len
  have hl2 := k1.len
  have b0 := BxS.new w 24 #[.slice a n c]
  have g0 := World.grownBy_alloc w (.cells #[.slice a n c] 24) none
  generalize hw0 : w.alloc (.cells #[.slice a n c] 24) = w0 at b0 g0
  have hz0 : w0.heap.size = w.heap.size + 1 := by rw [← hw0]; simp
  have b1 := BxS.new w0 24 #[.slice b n c']
  have g1 := World.grownBy_alloc w0 (.cells #[.slice b n c'] 24) none
  generalize hw1 : w0.alloc (.cells #[.slice b n c'] 24) = w1 at b1 g1
  rw [hz0] at b1
  have p0 := b0.keep g1 (by simp)
  have G1 := grown_trans g0 g1
  have H1 := h1.keep G1
  have K1 := k1.keep G1
  have x0 : w1.cell? ⟨w.heap.size, 0, none⟩ = some (.slice a n c) := p0.cell 0 (by show 0 < 1; decide)
  have x1 : w1.cell? ⟨w.heap.size + 1, 0, none⟩ = some (.slice b n c') := b1.cell 0 (by show 0 < 1; decide)
  have hmm : maxLen ≤ 9223372036854775807 := by decide
  have hle := h1.le
  have hmx := h1.max
  go_enter Try.func13, Try.ntmps13
  go_wp2
  clear x0 x1
  go_loopw [5] (fun iv wr => ∃ (k : Nat), iv = .int .i64 k ∧ k ≤ n ∧ w1.grownBy wr none) (fun iv _ => n - (intOf iv).toNat)
  case atStart => exact ⟨0, by go_num, Nat.zero_le _, World.grownBy.refl _ _⟩
  case round =>
    clear h hk2
    obtain ⟨k, rfl, hk, yr⟩ := hrel
    have B0 := p0.keep yr (by simp)
    have B1 := b1.keep yr (by simp)
    have x0 : wr.cell? ⟨w.heap.size, 0, none⟩ = some (.slice a n c) := B0.cell 0 (by show 0 < 1; decide)
    by_cases hlt : k < n
    · have hlt' : (k : Int) < (n : Int) := by omega
      obtain ⟨kk, hi, hd1⟩ := map_d_at h2 k (by omega)
      obtain ⟨ll, hj, hd2⟩ := map_d_at k2 k (by omega)
      have hm1 : kk ∈ ks := List.mem_of_getElem? hi
      have hm2 : ll ∈ ls := List.mem_of_getElem? hj
      obtain ⟨ba, oa, ea, _⟩ := H1.at' (by omega)
      obtain ⟨bb, ob, eb, _⟩ := K1.at' (by omega)
      subst ea
      subst eb
      have HA := H1.keep yr
      have HB := K1.keep yr
      have ed : kk.d = ll.d := Option.some.inj (hd1.symm.trans hd2)
      have eid : kk.id = ll.id := congrArg Kd.id ed
      have eW : kk.W = ll.W := congrArg Kd.W ed
      have etp : kk.tp = ll.tp := congrArg Kd.tp ed
      have esn : kk.sn = ll.sn := congrArg Kd.sn ed
      have en : kk.n = ll.n := by rw [← (HA.ws kk hm1).len, ← (HB.ws ll hm2).len, eW]
      have kS := fun wz (hg : wr.grownBy wz none) => sameKey_any kk.id kk.a ll.a kk.n kk.c ll.c kk.tp kk.sn kk.W wz ((HA.ws kk hm1).keep hg) (by rw [en, eW]; exact (HB.ws ll hm2).keep hg)
      have hwk : IntKind.i64.wrap ((k : Int) + 1) = (k : Int) + 1 := wrap_i64_in _ (by omega) (by omega)
      have HID : Hid (ll.id = kk.id ∧ ll.n = kk.n ∧ ll.tp = kk.tp ∧ ll.sn = kk.sn) := ⟨eid.symm, en.symm, etp.symm, esn.symm⟩
      clear ed eid eW etp esn en hd1 hd2
      have SS := grown_drew wr none
      go_wp2
      refine wp_regionL (fun wz => wr.grownBy wz none) [] #[false, false, false, false, false, false, false, false, false, false, false, false] rfl (by kernel_rfl) ?_
      refine wpAnyZ_take [] 0 (.pointer (some ⟨w.heap.size, 0, none⟩)) rfl (by kernel_rfl) (fun _ _ _ h => h) SS rfl (by intro wz hz; have p0 := (B0.keep hz (by simp)).cell 0 (by show 0 < 1; decide); have p1 := (B1.keep hz (by simp)).cell 0 (by show 0 < 1; decide); have p0 : wz.cell? ⟨w.heap.size, 0, none⟩ = some (.slice (some ⟨ba, oa, none⟩) n c) := p0; have p1 : wz.cell? ⟨w.heap.size + 1, 0, none⟩ = some (.slice (some ⟨bb, ob, none⟩) n c') := p1; obtain ⟨q0, q1, q2, q3⟩ := (HA.keep hz).four hi; obtain ⟨r0, r1, r2, r3⟩ := (HB.keep hz).four hj; go_simp) ?_
      try simp only [List.getElem_toArray, List.getElem_cons_succ, List.getElem_cons_zero, Act.put, List.setIfInBounds_toArray, List.set_cons_zero, List.set_cons_succ]
      refine wpAnyZ_take [] 1 (.slice (some ⟨ba, oa, none⟩) n c) rfl (by kernel_rfl) (fun _ _ _ h => h) SS rfl (by intro wz hz; have p0 := (B0.keep hz (by simp)).cell 0 (by show 0 < 1; decide); have p1 := (B1.keep hz (by simp)).cell 0 (by show 0 < 1; decide); have p0 : wz.cell? ⟨w.heap.size, 0, none⟩ = some (.slice (some ⟨ba, oa, none⟩) n c) := p0; have p1 : wz.cell? ⟨w.heap.size + 1, 0, none⟩ = some (.slice (some ⟨bb, ob, none⟩) n c') := p1; obtain ⟨q0, q1, q2, q3⟩ := (HA.keep hz).four hi; obtain ⟨r0, r1, r2, r3⟩ := (HB.keep hz).four hj; go_simp) ?_
      try simp only [List.getElem_toArray, List.getElem_cons_succ, List.getElem_cons_zero, Act.put, List.setIfInBounds_toArray, List.set_cons_zero, List.set_cons_succ]
      refine wpAnyZ_take [] 2 (.int .i64 (k : Int)) rfl (by kernel_rfl) (fun _ _ _ h => h) SS rfl (by intro wz hz; have p0 := (B0.keep hz (by simp)).cell 0 (by show 0 < 1; decide); have p1 := (B1.keep hz (by simp)).cell 0 (by show 0 < 1; decide); have p0 : wz.cell? ⟨w.heap.size, 0, none⟩ = some (.slice (some ⟨ba, oa, none⟩) n c) := p0; have p1 : wz.cell? ⟨w.heap.size + 1, 0, none⟩ = some (.slice (some ⟨bb, ob, none⟩) n c') := p1; obtain ⟨q0, q1, q2, q3⟩ := (HA.keep hz).four hi; obtain ⟨r0, r1, r2, r3⟩ := (HB.keep hz).four hj; go_simp) ?_
      try simp only [List.getElem_toArray, List.getElem_cons_succ, List.getElem_cons_zero, Act.put, List.setIfInBounds_toArray, List.set_cons_zero, List.set_cons_succ]
      refine wpAnyZ_take [] 3 (.pointer (some ⟨ba, oa + k * 4, none⟩)) rfl (by kernel_rfl) (fun _ _ _ h => h) SS rfl (by intro wz hz; have p0 := (B0.keep hz (by simp)).cell 0 (by show 0 < 1; decide); have p1 := (B1.keep hz (by simp)).cell 0 (by show 0 < 1; decide); have p0 : wz.cell? ⟨w.heap.size, 0, none⟩ = some (.slice (some ⟨ba, oa, none⟩) n c) := p0; have p1 : wz.cell? ⟨w.heap.size + 1, 0, none⟩ = some (.slice (some ⟨bb, ob, none⟩) n c') := p1; obtain ⟨q0, q1, q2, q3⟩ := (HA.keep hz).four hi; obtain ⟨r0, r1, r2, r3⟩ := (HB.keep hz).four hj; go_simp) ?_
      try simp only [List.getElem_toArray, List.getElem_cons_succ, List.getElem_cons_zero, Act.put, List.setIfInBounds_toArray, List.set_cons_zero, List.set_cons_succ]
      refine wpAnyZ_take [] 4 (.agg #[.int .i64 kk.id, .slice kk.a kk.n kk.c, .int .i64 kk.tp, .int .i64 kk.sn]) rfl (by kernel_rfl) (fun _ _ _ h => h) SS rfl (by intro wz hz; have p0 := (B0.keep hz (by simp)).cell 0 (by show 0 < 1; decide); have p1 := (B1.keep hz (by simp)).cell 0 (by show 0 < 1; decide); have p0 : wz.cell? ⟨w.heap.size, 0, none⟩ = some (.slice (some ⟨ba, oa, none⟩) n c) := p0; have p1 : wz.cell? ⟨w.heap.size + 1, 0, none⟩ = some (.slice (some ⟨bb, ob, none⟩) n c') := p1; obtain ⟨q0, q1, q2, q3⟩ := (HA.keep hz).four hi; obtain ⟨r0, r1, r2, r3⟩ := (HB.keep hz).four hj; go_simp) ?_
      try simp only [List.getElem_toArray, List.getElem_cons_succ, List.getElem_cons_zero, Act.put, List.setIfInBounds_toArray, List.set_cons_zero, List.set_cons_succ]
      refine wpAnyZ_take [] 5 (.pointer (some ⟨w.heap.size + 1, 0, none⟩)) rfl (by kernel_rfl) (fun _ _ _ h => h) SS rfl (by intro wz hz; have p0 := (B0.keep hz (by simp)).cell 0 (by show 0 < 1; decide); have p1 := (B1.keep hz (by simp)).cell 0 (by show 0 < 1; decide); have p0 : wz.cell? ⟨w.heap.size, 0, none⟩ = some (.slice (some ⟨ba, oa, none⟩) n c) := p0; have p1 : wz.cell? ⟨w.heap.size + 1, 0, none⟩ = some (.slice (some ⟨bb, ob, none⟩) n c') := p1; obtain ⟨q0, q1, q2, q3⟩ := (HA.keep hz).four hi; obtain ⟨r0, r1, r2, r3⟩ := (HB.keep hz).four hj; go_simp) ?_
      try simp only [List.getElem_toArray, List.getElem_cons_succ, List.getElem_cons_zero, Act.put, List.setIfInBounds_toArray, List.set_cons_zero, List.set_cons_succ]
      refine wpAnyZ_take [] 6 (.slice (some ⟨bb, ob, none⟩) n c') rfl (by kernel_rfl) (fun _ _ _ h => h) SS rfl (by intro wz hz; have p0 := (B0.keep hz (by simp)).cell 0 (by show 0 < 1; decide); have p1 := (B1.keep hz (by simp)).cell 0 (by show 0 < 1; decide); have p0 : wz.cell? ⟨w.heap.size, 0, none⟩ = some (.slice (some ⟨ba, oa, none⟩) n c) := p0; have p1 : wz.cell? ⟨w.heap.size + 1, 0, none⟩ = some (.slice (some ⟨bb, ob, none⟩) n c') := p1; obtain ⟨q0, q1, q2, q3⟩ := (HA.keep hz).four hi; obtain ⟨r0, r1, r2, r3⟩ := (HB.keep hz).four hj; go_simp) ?_
      try simp only [List.getElem_toArray, List.getElem_cons_succ, List.getElem_cons_zero, Act.put, List.setIfInBounds_toArray, List.set_cons_zero, List.set_cons_succ]
      refine wpAnyZ_take [] 7 (.int .i64 (k : Int)) rfl (by kernel_rfl) (fun _ _ _ h => h) SS rfl (by intro wz hz; have p0 := (B0.keep hz (by simp)).cell 0 (by show 0 < 1; decide); have p1 := (B1.keep hz (by simp)).cell 0 (by show 0 < 1; decide); have p0 : wz.cell? ⟨w.heap.size, 0, none⟩ = some (.slice (some ⟨ba, oa, none⟩) n c) := p0; have p1 : wz.cell? ⟨w.heap.size + 1, 0, none⟩ = some (.slice (some ⟨bb, ob, none⟩) n c') := p1; obtain ⟨q0, q1, q2, q3⟩ := (HA.keep hz).four hi; obtain ⟨r0, r1, r2, r3⟩ := (HB.keep hz).four hj; go_simp) ?_
      try simp only [List.getElem_toArray, List.getElem_cons_succ, List.getElem_cons_zero, Act.put, List.setIfInBounds_toArray, List.set_cons_zero, List.set_cons_succ]
      refine wpAnyZ_take [] 8 (.pointer (some ⟨bb, ob + k * 4, none⟩)) rfl (by kernel_rfl) (fun _ _ _ h => h) SS rfl (by intro wz hz; have p0 := (B0.keep hz (by simp)).cell 0 (by show 0 < 1; decide); have p1 := (B1.keep hz (by simp)).cell 0 (by show 0 < 1; decide); have p0 : wz.cell? ⟨w.heap.size, 0, none⟩ = some (.slice (some ⟨ba, oa, none⟩) n c) := p0; have p1 : wz.cell? ⟨w.heap.size + 1, 0, none⟩ = some (.slice (some ⟨bb, ob, none⟩) n c') := p1; obtain ⟨q0, q1, q2, q3⟩ := (HA.keep hz).four hi; obtain ⟨r0, r1, r2, r3⟩ := (HB.keep hz).four hj; go_simp) ?_
      try simp only [List.getElem_toArray, List.getElem_cons_succ, List.getElem_cons_zero, Act.put, List.setIfInBounds_toArray, List.set_cons_zero, List.set_cons_succ]
      refine wpAnyZ_take [] 9 (.agg #[.int .i64 kk.id, .slice ll.a kk.n ll.c, .int .i64 kk.tp, .int .i64 kk.sn]) rfl (by kernel_rfl) (fun _ _ _ h => h) SS rfl (by intro wz hz; have p0 := (B0.keep hz (by simp)).cell 0 (by show 0 < 1; decide); have p1 := (B1.keep hz (by simp)).cell 0 (by show 0 < 1; decide); have p0 : wz.cell? ⟨w.heap.size, 0, none⟩ = some (.slice (some ⟨ba, oa, none⟩) n c) := p0; have p1 : wz.cell? ⟨w.heap.size + 1, 0, none⟩ = some (.slice (some ⟨bb, ob, none⟩) n c') := p1; obtain ⟨q0, q1, q2, q3⟩ := (HA.keep hz).four hi; obtain ⟨r0, r1, r2, r3⟩ := (HB.keep hz).four hj; obtain ⟨hi1, hi2, hi3, hi4⟩ := HID.out; rw [hi1] at r0; rw [hi2] at r1; rw [hi3] at r2; rw [hi4] at r3; go_simp) ?_
      try simp only [List.getElem_toArray, List.getElem_cons_succ, List.getElem_cons_zero, Act.put, List.setIfInBounds_toArray, List.set_cons_zero, List.set_cons_succ]
      refine wpAnyZ_oneB 10 rfl (by kernel_rfl) (fun K hK => ?_)
      go_simp
      go_at_call 10
      refine (kS _ SS).mono ?_
      rintro e w4 ⟨rfl, y4⟩
      dsimp only
      have SS := grown_trans SS y4
      refine hK _ _ (fun _ => SS) ?_
      try simp only [List.getElem_toArray, List.getElem_cons_succ, List.getElem_cons_zero, Act.put, List.setIfInBounds_toArray, List.set_cons_zero, List.set_cons_succ]
      refine wpAnyZ_take [] 11 (.bool false) rfl (by kernel_rfl) (fun _ _ _ h => h) SS rfl (by intro wz hz; go_simp) ?_
      try simp only [List.getElem_toArray, List.getElem_cons_succ, List.getElem_cons_zero, Act.put, List.setIfInBounds_toArray, List.set_cons_zero, List.set_cons_succ]
      refine wpAnyZ_doneB (by kernel_rfl) ?_ _
      go_wp2
      go_roundw
      case rel => exact ⟨k + 1, by go_num, by omega, grown_trans yr SS⟩
      case measure => simp [intOf]; omega
    · have hlt' : ¬ (k : Int) < (n : Int) := by omega
      go_wp2
      go_ret
      exact ⟨rfl, grown_trans G1 yr⟩
/-- sizes that fit -/
def FitG (R : List Kd) : Prop := ∀ k, k ∈ R → k.W.length ≤ 17592186044000
set_option maxHeartbeats 16000000 in
/-- RingOf -/
theorem ringOf_any (a : Option Addr) (n c : Nat) (R : List Kd) (w : World) (h : RdG w a n c R) (hF : FitG R) (hn : n * 48 ≤ 140737488351232) :
    Calls Try.prog 11 #[.agg #[.slice a n c]] w fun e w' => ∃ (a' : Option Addr) (c' : Nat) (ks' : List Kw), e = .returned (.agg #[.slice a' n c']) ∧ OwG w' w.heap.size a' n c' ks' R ∧ w.grownBy w' none := by
  obtain ⟨ks, h1, h2⟩ := h.ex
  have hl1 := h1.len
  have b0 := BxS.new w 24 #[.slice a n c]
  have g0 := World.grownBy_alloc w (.cells #[.slice a n c] 24) none
  generalize hw0 : w.alloc (.cells #[.slice a n c] 24) = w0 at b0 g0
  have hz0 : w0.heap.size = w.heap.size + 1 := by rw [← hw0]; simp
  have b1 := BxS.new w0 24 #[.slice none 0 0]
  have g1 := World.grownBy_alloc w0 (.cells #[.slice none 0 0] 24) none
  generalize hw1 : w0.alloc (.cells #[.slice none 0 0] 24) = w1 at b1 g1
  rw [hz0] at b1
  have sz1 : w.heap.size + 2 ≤ w1.heap.size := by rw [← hw1]; simp [hz0]
  have p0 := b0.keep g1 (by simp)
  have G1 := grown_trans g0 g1
  have H1 := h1.keep G1
  have i4 := Try.info_ky4
  have i1 := Try.info_rg1
  have hmm : maxLen ≤ 9223372036854775807 := by decide
  have hle := h1.le
  have hmx := h1.max
  clear h
  go_enter Try.func11, Try.ntmps11
  go_wp2
  go_loopw [3, 4] (fun lv iv wr => ∃ (k : Nat) (a' : Option Addr) (c' : Nat) (ks' : List Kw), lv = .slice a' k c' ∧ iv = .int .i64 k ∧ k ≤ n ∧ OwG wr w1.heap.size a' k c' ks' (R.take k) ∧ w1.grownBy wr none) (fun _ iv _ => n - (intOf iv).toNat)
  case atStart => exact ⟨0, none, 0, [], rfl, by go_num, Nat.zero_le _, OwG.nil _ _, World.grownBy.refl _ _⟩
  case round =>
    obtain ⟨k, a', c', ks', rfl, rfl, hk, hO, yr⟩ := hrel
    have B0 := p0.keep yr (by simp)
    have x0 : wr.cell? ⟨w.heap.size, 0, none⟩ = some (.slice a n c) := B0.cell 0 (by show 0 < 1; decide)
    by_cases hlt : k < n
    · have hlt' : (k : Int) < (n : Int) := by omega
      obtain ⟨kk, hi, hd1⟩ := map_d_at h2 k (by omega)
      have hm1 : kk ∈ ks := List.mem_of_getElem? hi
      obtain ⟨ba, oa, ea, _⟩ := H1.at' (by omega)
      subst ea
      have HA := H1.keep yr
      obtain ⟨q0, q1, q2, q3⟩ := HA.four hi
      have hW := HA.ws kk hm1
      have hwn : kk.n ≤ 17592186044000 := by
        have := hF kk.d (by rw [← h2]; exact List.mem_map_of_mem hm1)
        rw [← hW.len]; exact this
      have hwk : IntKind.i64.wrap ((k : Int) + 1) = (k : Int) + 1 := wrap_i64_in _ (by omega) (by omega)
      have etk : R.take (k + 1) = R.take k ++ [kk.d] := by rw [List.take_add_one, hd1]; rfl
      have HTK : Hid (R.take (k + 1) = R.take k ++ [kk.d]) := etk
      clear etk hd1
      have b5 := BxS.new wr 27 #[.int .i64 0, .slice none 0 0, .int .i64 0, .int .i64 0]
      have g5 := World.grownBy_alloc wr (.cells #[.int .i64 0, .slice none 0 0, .int .i64 0, .int .i64 0] 27) none
      have s0 : True := trivial
      go_wp2_with (first
        | (have _t := s0; clear s0; refine wpList_stX _ rfl _ (.tmp 5) (.tmp 17) rfl wr.heap.size _ _ rfl rfl b5 i4 rfl (by simp [Value.oneCell']) ?_; intro w5 b6 u6; have Y6 := grown_far g5 u6 (fun q e => by have e := Option.some.inj e; omega); have hW6 := hW.keep Y6; obtain ⟨t0, t1, t2, t3⟩ := BxS.cell4 b6; clear q0 q1 q2 q3; have s1 : True := trivial)
        | (at_builtin; have _t := s1; clear s1; refine wpList_cpI _ rfl _ _ rfl rfl kk.a kk.n kk.c kk.W rfl hW6 hwn ?_; intro xa xc w7 hX7 y7; have b7 := b6.keep y7 (by simp); clear t0 t1 t2 t3; have s2 : True := trivial)
        | (have _t := s2; clear s2; refine wpList_stC _ rfl _ _ _ rfl wr.heap.size 1 27 _ #[.int .i64 kk.id, .slice xa kk.n xc, .int .i64 kk.tp, .int .i64 kk.sn] (.slice xa kk.n xc) rfl rfl b7 (stc_ints _ _ _ _ _) (by show 1 < 4; decide) rfl ?_; intro w8 b8 u8; obtain ⟨t0, t1, t2, t3⟩ := BxS.cell4 b8; have s3 : True := trivial)
        | (at_builtin; have _t := s3; clear s3; have Y7 := grown_trans Y6 y7; have hzr := Y7.size; have hO7 := hO.o.keep Y7; have sz1r := yr.size; have hO8 := hO7.kept u8 (fun x e hx => by have e := Option.some.inj e; subst e; have := (hO.o.hi hx).1; omega); have hX8 := (hX7.wide (show w1.heap.size ≤ w5.heap.size by have := Y6.size; omega)).kept u8 (by cases e2 : (Value.slice xa kk.n xc).ownBlock with | none => exact .inl rfl | some x => exact .inr (fun e3 => by have e3 := Option.some.inj e3; subst e3; exact hX7.box b7 (by decide) e2)); refine wpList_psK w8 w1.heap.size ⟨kk.id, xa, kk.n, xc, kk.W, kk.tp, kk.sn⟩ rfl _ _ rfl a' k c' ks' rfl hO8 (by have := u8.size; omega) rfl (by omega) _ rfl hX8 (HA.bd kk hm1) (fun q hq y hy e => by have h9 := (hO.o.hi (.inr ⟨q, hq, hy⟩)).1; have h10 := hX7.new y e; have := Y6.size; omega) ?_; intro gx cx w9 hO9 u9 hgx))
      refine ⟨⟨k + 1, _, cx, _, rfl, by go_num, by omega, ⟨hO9, ?_⟩, ?_⟩, by simp [intOf]; omega⟩
      · rw [HTK.out, List.map_append, hO.d]; rfl
      · exact grown_far (grown_far (grown_trans yr Y7) u8 (fun q e => by have e := Option.some.inj e; omega)) u9 (fun q e => hO8.new q e)
    · have hlt' : ¬ (k : Int) < (n : Int) := by omega
      obtain rfl : k = n := by omega
      have B1 := b1.keep yr (by simp)
      go_wp2_with (refine wpList_stX _ rfl _ (.tmp 2) (.tmp 27) rfl (w.heap.size + 1) _ _ rfl rfl B1 i1 rfl (by simp [Value.oneCell']) ?_; intro w9 b9 u9)
      refine bodyPost_ret (results_cell1 rfl _ _ _ ⟨w.heap.size + 1, 0, none⟩ _ rfl (BxS.load (t := 24) b9 Try.underlying24 i1)) rfl ?_
      have hlR : R.length = k := by rw [← h2, List.length_map]; exact hl1
      have h9 := hO.o.kept u9 (fun x e hx => by have e := Option.some.inj e; subst e; have := (hO.o.hi hx).2; omega)
      exact ⟨a', c', rfl, ⟨ks', ⟨h9.wide (by omega), by rw [hO.d, List.take_of_length_le (by omega)]⟩⟩, grown_far (grown_trans G1 yr) u9 (fun q e => by have e := Option.some.inj e; omega)⟩
end Go.Proofs.Ytdpgblojdppfeaa
