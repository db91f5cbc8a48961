import Derived.Test.YtdpgblojdppfeaaQD
import Derived.Lib.IfaceEq
namespace Go.Proofs.Ytdpgblojdppfeaa
open Go.RowKit
set_option maxRecDepth 100000
set_option linter.unusedVariables false
set_option linter.unusedSimpArgs false
theorem Try.elI : ElT 25 3 (.int .i64 0) 8 := ⟨Try.underlying25, by kernel_rfl, rfl, by decide⟩
theorem cloneI_any (a : Option Addr) (n cap : Nat) (X : List Value) (w : World) (hp : RdX w a n cap X) (hn : n ≤ 10000000000000) :
    Calls Try.prog 34 #[.slice a n cap] w fun e w' => ∃ a' c', e = .returned (.slice a' n c') ∧ AnsX 3 w' w.heap.size a' n c' X ∧ w.grownBy w' none := by
  cases a with
  | none =>
    have hc0 : cap = 0 := hp.nil rfl
    have hn0 : n = 0 := by have := hp.le; omega
    subst hc0 hn0
    have e : X = [] := List.eq_nil_of_length_eq_zero hp.len
    subst e
    have heq := fun w => Lib.run_eql_slice_nil (P := Try.prog) w 25 3 none 0 0 0 0 Try.underlying25
    go_enter Try.func34, Try.ntmps34
    go_wp2
    go_ret
    exact ⟨none, 0, rfl, AnsX.nil0 _ _ _, World.grownBy.refl _ _⟩
  | some ad =>
    have gA := World.grownBy_alloc w (.cells #[] 3) none
    have hA := heap_alloc_new w (.cells #[] 3)
    have hown : AnsX 3 (w.alloc (.cells #[] 3)) w.heap.size (some ⟨w.heap.size, 0, none⟩) 0 0 [] := ⟨⟨rfl, .inr ⟨w.heap.size, 0, #[], rfl, Nat.zero_le _, hA, Nat.le_refl _, Nat.zero_le _, rfl, rfl⟩⟩, (fun x h => by cases h), fun g h => by have e : w.heap.size = g := Option.some.inj h; omega⟩
    have hpA := hp.keep gA
    have heq := fun w => Lib.run_eql_slice_nil (P := Try.prog) w 25 3 (some ad) n cap 0 0 Try.underlying25
    go_enter Try.func34, Try.ntmps34
    go_wp2_with (at_builtin; refine wpList_apX Try.elI rfl _ _ rfl _ 0 0 w.heap.size [] rfl hown (by simp) _ n cap X rfl hpA (by omega) (by omega) ?_; intro a' c' w2 hA2 hg2)
    go_ret
    rw [Nat.zero_add] at *
    exact ⟨a', c', rfl, hA2, grown_far gA hg2 (fun x hx => by have e : w.heap.size = x := Option.some.inj hx; omega)⟩
theorem step_stC (w : World) {ops : Array Oper} {o : Oper} {a : Act} {K : Act → World → Prop} {Q : Exit → Act → World → Prop} {E : Prop} (hg : o.guard = none) (t : TypeId) (p x : Operand) (hop : o.op = Op.store t p x)
    (g i : Nat) (ty : TypeId) (A A' : Array Value) (v : Value) (hp : a.eval p = .pointer (some ⟨g, i, none⟩)) (hx : a.eval x = v) (hB : BxS w g ty A)
    (hst : ∀ w' : World, (∃ u, w'.cell? ⟨g, i, none⟩ = some u) → w'.frozen? ⟨g, i, none⟩ = false → (Instr.storeAt t (.pointer (some ⟨g, i, none⟩)) v).run Try.prog w' = .ok () (w'.setCell ⟨g, i, none⟩ v)) (hi : i < A.size) (hA : A.setIfInBounds i v = A')
    (hK : ∀ w', BxS w' g ty A' → w.grownBy w' (some g) → K (a.put o.dst undef) w') :
    if Region.wanted o (yielded ops a.tmps) = true then Oper.wp Try.prog o a w K Q else E := by
  have hw : Region.wanted o (yielded ops a.tmps) = true := by simp [Region.wanted, hg]
  rw [if_pos hw]
  have hc : ∃ u, w.cell? ⟨g, i, none⟩ = some u := ⟨A[i], by rw [cell_of_row w g i _ _ _ hB]; simp [hi]⟩
  have hf := frozen_of_row w g i _ _ hB
  have hfin := hK _ (by unfold BxS; rw [heap_setCell_same w g i _ _ _ hB, hA]) (grown_set w g i v)
  unfold Oper.wp
  simp [execOp, hop, hp, hx, hst w hc hf, Result.andThen, Oper.upon]
  exact hfin
theorem RdI.x {w : World} {a : Option Addr} {n c : Nat} {S : List Int} (h : RdI w a n c S) : RdX w a n c (zys S) := by
  refine ⟨by rw [zys_length]; exact h.len, h.le, h.max, h.nil, zys_one S, fun h0 => ?_⟩
  obtain ⟨b, off, e, hb, hc⟩ := h.at' h0
  refine ⟨b, off, e, hb, fun i u hu => ?_⟩
  have hi : i < S.length := by
    have := (List.getElem?_eq_some_iff.1 hu).1
    rw [zys_length] at this; exact this
  rw [zys_at S i hi] at hu
  rw [← hu]
  exact hc i (by rw [← h.len]; exact hi)
theorem AnsX.z {w : World} {lo : Nat} {a : Option Addr} {n c : Nat} {S : List Int} (h : AnsX 3 w lo a n c (zys S)) : AnsZ w lo a n c S := ⟨h.own, h.new⟩
theorem AnsZ.x {w : World} {lo : Nat} {a : Option Addr} {n c : Nat} {S : List Int} (h : AnsZ w lo a n c S) : AnsX 3 w lo a n c (zys S) := ⟨h.own, zys_one S, h.new⟩
set_option maxHeartbeats 8000000 in
theorem copyKey_any (kk : Kw) (w : World) (h : RdI w kk.a kk.n kk.c kk.W) (hn : kk.n ≤ 10000000000000) :
    Calls Try.prog 23 #[.agg #[.int .i64 kk.id, .slice kk.a kk.n kk.c, .int .i64 kk.tp, .int .i64 kk.sn]] w fun e w' => ∃ a' c', e = .returned (.agg #[.int .i64 kk.id, .slice a' kk.n c', .int .i64 kk.tp, .int .i64 kk.sn]) ∧ AnsZ w' w.heap.size a' kk.n c' kk.W ∧ w.grownBy w' none := by
  have b0 := BxS.new w 27 #[.int .i64 kk.id, .slice kk.a kk.n kk.c, .int .i64 kk.tp, .int .i64 kk.sn]
  have g0 := World.grownBy_alloc w (.cells #[.int .i64 kk.id, .slice kk.a kk.n kk.c, .int .i64 kk.tp, .int .i64 kk.sn] 27) none
  generalize hw0 : w.alloc (.cells #[.int .i64 kk.id, .slice kk.a kk.n kk.c, .int .i64 kk.tp, .int .i64 kk.sn] 27) = w0 at b0 g0
  have hz0 : w0.heap.size = w.heap.size + 1 := by rw [← hw0]; simp
  have b1 := BxS.new w0 27 #[.int .i64 0, .slice none 0 0, .int .i64 0, .int .i64 0]
  have g1 := World.grownBy_alloc w0 (.cells #[.int .i64 0, .slice none 0 0, .int .i64 0, .int .i64 0] 27) none
  generalize hw1 : w0.alloc (.cells #[.int .i64 0, .slice none 0 0, .int .i64 0, .int .i64 0] 27) = w1 at b1 g1
  rw [hz0] at b1
  have sz1 : w.heap.size + 2 ≤ w1.heap.size := by rw [← hw1]; simp [hz0]
  have p0 := b0.keep g1 (by simp)
  have G1 := grown_trans g0 g1
  have i4 := Try.info_ky4
  have kC := cloneI_any kk.a kk.n kk.c (zys kk.W) w1 (h.keep G1).x hn
  obtain ⟨t0, t1, t2, t3⟩ := BxS.cell4 p0
  have s0 : True := trivial
  go_enter Try.func23, Try.ntmps23
  go_wp2_with (first
    | (go_at_call 34; have _t := s0; clear s0; refine kC.mono ?_; rintro e w2 ⟨xa, xc, rfl, hX, y2⟩; have p2 := p0.keep y2 (by simp); clear t0 t1 t2 t3; have s1 : True := trivial)
    | (have _t := s1; clear s1; refine wpList_stC _ rfl _ _ _ rfl w.heap.size 1 27 _ #[.int .i64 kk.id, .slice xa kk.n xc, .int .i64 kk.tp, .int .i64 kk.sn] (.slice xa kk.n xc) rfl rfl p2 (stc_ints _ _ _ _ _) (by show 1 < 4; decide) rfl ?_; intro w3 b3 u3; obtain ⟨t0, t1, t2, t3⟩ := BxS.cell4 b3; have q1 := (b1.keep y2 (by simp)).keep u3 (fun e => by have e := Option.some.inj e; omega); have s2 : True := trivial)
    | (have _t := s2; clear s2; refine wpList_stX _ rfl _ (.tmp 2) (.tmp 7) rfl (w.heap.size + 1) _ _ rfl rfl q1 i4 rfl (by simp [Value.oneCell']) ?_; intro w9 b9 u9))
  refine bodyPost_ret (results_cell1 rfl _ _ _ ⟨w.heap.size + 1, 0, none⟩ _ rfl (BxS.load (t := 27) b9 Try.underlying27 i4)) rfl ?_
  have hX3 := (hX.z.kept u3 (by cases e2 : (Value.slice xa kk.n xc).ownBlock with | none => exact .inl rfl | some x => exact .inr (fun e3 => by have e3 := Option.some.inj e3; have := hX.new x e2; omega))).kept u9 (by cases e2 : (Value.slice xa kk.n xc).ownBlock with | none => exact .inl rfl | some x => exact .inr (fun e3 => by have e3 := Option.some.inj e3; have := hX.new x e2; omega))
  have GF := grown_far (grown_far (grown_trans G1 y2) u3 (fun q e => by have e := Option.some.inj e; omega)) u9 (fun q e => by have e := Option.some.inj e; omega)
  first | exact ⟨xa, xc, rfl, hX3.wide (by omega), GF⟩ | exact ⟨⟨xa, xc, rfl, hX3.wide (by omega)⟩, GF⟩
set_option maxHeartbeats 16000000 in
/-- copyRing -/
theorem copyRing_any (a : Option Addr) (n c : Nat) (R : List Kd) (w : World) (h : RdG w a n c R) (hF : ∀ k, k ∈ R → k.W.length ≤ 1000) (hn : n ≤ 1000) :
    Calls Try.prog 20 #[.agg #[.slice a n c]] w fun e w' => ∃ (a' : Option Addr) (c' : Nat) (ks' : List Kw), e = .returned (.agg #[.slice a' n c']) ∧ OwG w' w.heap.size a' n c' ks' R ∧ w.grownBy w' none := by
  obtain ⟨ks, h1, h2⟩ := h.ex
  have hl1 := h1.len
  have b0 := BxS.new w 24 #[.slice a n c]
  have g0 := World.grownBy_alloc w (.cells #[.slice a n c] 24) none
  generalize hw0 : w.alloc (.cells #[.slice a n c] 24) = w0 at b0 g0
  have hz0 : w0.heap.size = w.heap.size + 1 := by rw [← hw0]; simp
  have b1 := BxS.new w0 24 #[.slice none 0 0]
  have g1 := World.grownBy_alloc w0 (.cells #[.slice none 0 0] 24) none
  generalize hw1 : w0.alloc (.cells #[.slice none 0 0] 24) = w1 at b1 g1
  have hz1 : w1.heap.size = w.heap.size + 2 := by rw [← hw1]; simp [hz0]
  rw [hz0] at b1
  have b2 := BxS.new w1 24 #[.slice none 0 0]
  have g2 := World.grownBy_alloc w1 (.cells #[.slice none 0 0] 24) none
  generalize hw2 : w1.alloc (.cells #[.slice none 0 0] 24) = w2 at b2 g2
  rw [hz1] at b2
  have sz2 : w.heap.size + 3 ≤ w2.heap.size := by rw [← hw2]; simp [hz1]
  have p0 := (b0.keep g1 (by simp)).keep g2 (by simp)
  have p1 := b1.keep g2 (by simp)
  have G2 := grown_trans (grown_trans g0 g1) g2
  have H2 := h1.keep G2
  have i4 := Try.info_ky4
  have i1 := Try.info_rg1
  have hmm : maxLen ≤ 9223372036854775807 := by decide
  have hle := h1.le
  have hmx := h1.max
  have x0 : w2.cell? ⟨w.heap.size, 0, none⟩ = some (.slice a n c) := p0.cell 0 (by show 0 < 1; decide)
  clear h
  go_enter Try.func20, Try.ntmps20
  go_wp2
  clear x0
  go_loopw [9] (fun iv wr => ∃ (k : Nat) (a' : Option Addr) (c' : Nat) (ks' : List Kw), iv = .int .i64 k ∧ k ≤ n ∧ BxS wr (w.heap.size + 2) 24 #[.slice a' k c'] ∧ BxS wr (w.heap.size + 1) 24 #[.slice none 0 0] ∧ OwG wr w2.heap.size a' k c' ks' (R.take k) ∧ w.grownBy wr none ∧ w2.heap.size ≤ wr.heap.size) (fun iv _ => n - (intOf iv).toNat)
  case atStart => exact ⟨0, none, 0, [], by go_num, Nat.zero_le _, b2, p1, OwG.nil _ _, G2, Nat.le_refl _⟩
  case round =>
    obtain ⟨k, a', c', ks', rfl, hk, hB, hB1, hO, yr, hszl⟩ := hrel
    by_cases hlt : k < n
    · have hlt' : (k : Int) < (n : Int) := by omega
      obtain ⟨kk, hi, hd1⟩ := map_d_at h2 k (by omega)
      have hm1 : kk ∈ ks := List.mem_of_getElem? hi
      obtain ⟨ba, oa, ea, _⟩ := H2.at' (by omega)
      subst ea
      have HA := h1.keep yr
      obtain ⟨q0, q1, q2, q3⟩ := HA.four hi
      have hW := HA.ws kk hm1
      have hwn : kk.n ≤ 1000 := by
        have := hF kk.d (by rw [← h2]; exact List.mem_map_of_mem hm1)
        rw [← hW.len]; exact this
      have hwk : IntKind.i64.wrap ((k : Int) + 1) = (k : Int) + 1 := wrap_i64_in _ (by omega) (by omega)
      have HTK : Hid (R.take (k + 1) = R.take k ++ [kk.d]) := by show _ = _; rw [List.take_add_one, hd1]; rfl
      clear hd1
      have b5 := BxS.new wr 27 #[.int .i64 0, .slice none 0 0, .int .i64 0, .int .i64 0]
      have g5 := World.grownBy_alloc wr (.cells #[.int .i64 0, .slice none 0 0, .int .i64 0, .int .i64 0] 27) none
      have hBl := hB.lt
      go_wp2_with (refine wpList_stX _ rfl _ (.tmp 5) (.tmp 12) rfl wr.heap.size _ _ rfl rfl b5 i4 rfl (by simp [Value.oneCell']) ?_; intro w5 b6 u6)
      have Y6 := grown_far g5 u6 (fun q e => by have e := Option.some.inj e; omega)
      clear q0 q1 q2 q3
      have SD := grown_trans Y6 (grown_drew w5 none)
      have SS : BxS w5.drew (w.heap.size + 2) 24 #[.slice a' k c'] ∧ BxS w5.drew wr.heap.size 27 #[.int .i64 kk.id, .slice kk.a kk.n kk.c, .int .i64 kk.tp, .int .i64 kk.sn] := ⟨hB.keep SD (by simp), b6.keep (grown_drew w5 none) (by simp)⟩
      refine wp_regionL (fun wz => BxS wz (w.heap.size + 2) 24 #[.slice a' k c'] ∧ BxS wz wr.heap.size 27 #[.int .i64 kk.id, .slice kk.a kk.n kk.c, .int .i64 kk.tp, .int .i64 kk.sn]) [7] #[false, false, false, false, false, false, false, false] rfl (by kernel_rfl) ?_
      refine wpAnyZ_take [1, 5, 7] 0 (.pointer (some ⟨w.heap.size + 2, 0, none⟩)) rfl (by kernel_rfl) (fun _ _ _ h => h) SS rfl (by rintro wz ⟨hz1, hz2⟩; have z0 : wz.cell? ⟨w.heap.size + 2, 0, none⟩ = some (.slice a' k c') := hz1.cell 0 (by show 0 < 1; decide); obtain ⟨z1, z2, z3, z4⟩ := BxS.cell4 hz2; go_simp) ?_
      try simp only [List.getElem_toArray, List.getElem_cons_succ, List.getElem_cons_zero, Act.put, List.setIfInBounds_toArray, List.set_cons_zero, List.set_cons_succ]
      refine wpAnyZ_take [5, 7] 1 (.slice a' k c') rfl (by kernel_rfl) (fun _ _ _ h => h) SS rfl (by rintro wz ⟨hz1, hz2⟩; have z0 : wz.cell? ⟨w.heap.size + 2, 0, none⟩ = some (.slice a' k c') := hz1.cell 0 (by show 0 < 1; decide); obtain ⟨z1, z2, z3, z4⟩ := BxS.cell4 hz2; go_simp) ?_
      try simp only [List.getElem_toArray, List.getElem_cons_succ, List.getElem_cons_zero, Act.put, List.setIfInBounds_toArray, List.set_cons_zero, List.set_cons_succ]
      refine wpAnyZ_take [3, 4, 5, 7] 2 (.agg #[.int .i64 kk.id, .slice kk.a kk.n kk.c, .int .i64 kk.tp, .int .i64 kk.sn]) rfl (by kernel_rfl) (fun _ _ _ h => h) SS rfl (by rintro wz ⟨hz1, hz2⟩; have z0 : wz.cell? ⟨w.heap.size + 2, 0, none⟩ = some (.slice a' k c') := hz1.cell 0 (by show 0 < 1; decide); obtain ⟨z1, z2, z3, z4⟩ := BxS.cell4 hz2; go_simp) ?_
      try simp only [List.getElem_toArray, List.getElem_cons_succ, List.getElem_cons_zero, Act.put, List.setIfInBounds_toArray, List.set_cons_zero, List.set_cons_succ]
      generalize w5.drew = w6 at *
      have hO6 := hO.o.keep SD
      have hs6 := SD.size
      refine wpAnyZ_oneB 3 rfl (by kernel_rfl) (fun K hK => ?_)
      go_simp
      go_at_call 23
      refine (copyKey_any kk _ (hW.keep SD) (by omega)).mono ?_
      rintro e w7 ⟨xa, xc, rfl, hX7, y7⟩
      dsimp only
      have SS : BxS w7 (w.heap.size + 2) 24 #[.slice a' k c'] ∧ BxS w7 wr.heap.size 27 #[.int .i64 kk.id, .slice kk.a kk.n kk.c, .int .i64 kk.tp, .int .i64 kk.sn] := ⟨SS.1.keep y7 (by simp), SS.2.keep y7 (by simp)⟩
      refine hK _ _ (fun _ => SS) ?_
      try simp only [List.getElem_toArray, List.getElem_cons_succ, List.getElem_cons_zero, Act.put, List.setIfInBounds_toArray, List.set_cons_zero, List.set_cons_succ]
      have hO7 := hO6.keep y7
      have hs7 := y7.size
      refine wpAnyZ_oneB 4 rfl (by kernel_rfl) (fun K hK => ?_)
      go_simp
      have yA := World.grownBy_alloc w7 (.cells #[.int .i64 kk.id, .slice xa kk.n xc, .int .i64 kk.tp, .int .i64 kk.sn] 27) none
      refine hK _ _ (fun _ => ⟨SS.1.keep yA (by simp), SS.2.keep yA (by simp)⟩) ?_
      try simp only [List.getElem_toArray, List.getElem_cons_succ, List.getElem_cons_zero, Act.put, List.setIfInBounds_toArray, List.set_cons_zero, List.set_cons_succ]
      refine wpAnyZ_oneB 5 rfl (by kernel_rfl) (fun K hK => ?_)
      refine step_psK w7 w2.heap.size ⟨kk.id, xa, kk.n, xc, kk.W, kk.tp, kk.sn⟩ rfl _ _ rfl a' k c' ks' rfl hO7 (by omega) rfl (by omega) _ rfl (hX7.wide (by omega)) (HA.bd kk hm1) (fun q hq y hy e => by have h9 := (hO.o.hi (.inr ⟨q, hq, hy⟩)).1; have h10 := hX7.new y e; omega) ?_
      intro gx cx w9 hO9 u9 hgx
      have hne : ∀ t cs g, BxS w7 g t cs → 27 ≠ t → some g ≠ (Value.slice a' k c').ownBlock := fun t cs g hb ht e => hO7.box hb ht e.symm
      have hB9 := SS.1.keep u9 (hne _ _ _ SS.1 (by decide))
      have hB19 := (((hB1.keep SD (by simp)).keep y7 (by simp))).keep u9 (hne _ _ _ ((hB1.keep SD (by simp)).keep y7 (by simp)) (by decide))
      have hK9 : BxS w9 wr.heap.size 27 #[.int .i64 kk.id, .slice kk.a kk.n kk.c, .int .i64 kk.tp, .int .i64 kk.sn] := SS.2.keep u9 (fun e => by have := (hO.o.hi (.inl e.symm)).1; omega)
      have SS : BxS w9 (w.heap.size + 2) 24 #[.slice a' k c'] ∧ BxS w9 wr.heap.size 27 #[.int .i64 kk.id, .slice kk.a kk.n kk.c, .int .i64 kk.tp, .int .i64 kk.sn] := ⟨hB9, hK9⟩
      refine hK _ _ (fun _ => SS) ?_
      try simp only [List.getElem_toArray, List.getElem_cons_succ, List.getElem_cons_zero, Act.put, List.setIfInBounds_toArray, List.set_cons_zero, List.set_cons_succ]
      refine wpAnyZ_take [7] 6 (.pointer (some ⟨w.heap.size + 2, 0, none⟩)) rfl (by kernel_rfl) (fun _ _ _ h => h) SS rfl (by rintro wz ⟨hz1, hz2⟩; have z0 : wz.cell? ⟨w.heap.size + 2, 0, none⟩ = some (.slice a' k c') := hz1.cell 0 (by show 0 < 1; decide); obtain ⟨z1, z2, z3, z4⟩ := BxS.cell4 hz2; go_simp) ?_
      try simp only [List.getElem_toArray, List.getElem_cons_succ, List.getElem_cons_zero, Act.put, List.setIfInBounds_toArray, List.set_cons_zero, List.set_cons_succ]
      refine wpAnyZ_oneB 7 rfl (by kernel_rfl) (fun K hK => ?_)
      refine step_stC _ rfl _ _ _ rfl (w.heap.size + 2) 0 24 _ #[.slice (some ⟨gx, 0, none⟩) (k + 1) cx] (.slice (some ⟨gx, 0, none⟩) (k + 1) cx) rfl rfl SS.1 (stc_keys _ _ _ _ _) (by show 0 < 1; decide) rfl ?_
      intro w10 b10 u10
      refine hK _ _ (fun h => absurd (by decide) h) ?_
      try simp only [List.getElem_toArray, List.getElem_cons_succ, List.getElem_cons_zero, Act.put, List.setIfInBounds_toArray, List.set_cons_zero, List.set_cons_succ]
      refine wpAnyZ_doneB (by kernel_rfl) ?_ _
      have hO10 := hO9.kept u10 (fun x e hx => by have e := Option.some.inj e; subst e; have := (hO9.hi hx).2; omega)
      have hB110 := hB19.keep u10 (fun e => by have e := Option.some.inj e; omega)
      have G10 := grown_far (grown_far (grown_trans (grown_trans yr SD) y7) u9 (fun q e => by have := (hO.o.hi (.inl e)).2; omega)) u10 (fun q e => by have e := Option.some.inj e; omega)
      go_wp2
      go_roundw
      case rel => exact ⟨k + 1, _, cx, _, by go_num, by omega, b10, hB110, ⟨hO10, by rw [HTK.out, List.map_append, hO.d]; rfl⟩, G10, by have := u9.size; have := u10.size; omega⟩
      case measure => simp [intOf]; omega
    · have hlt' : ¬ (k : Int) < (n : Int) := by omega
      obtain rfl : k = n := by omega
      have x2 : wr.cell? ⟨w.heap.size + 2, 0, none⟩ = some (.slice a' k c') := hB.cell 0 (by show 0 < 1; decide)
      go_wp2_with (refine wpList_stX _ rfl _ (.tmp 2) (.tmp 21) rfl (w.heap.size + 1) _ _ rfl rfl hB1 i1 rfl (by simp [Value.oneCell']) ?_; intro w9 b9 u9)
      refine bodyPost_ret (results_cell1 rfl _ _ _ ⟨w.heap.size + 1, 0, none⟩ _ rfl (BxS.load (t := 24) b9 Try.underlying24 i1)) rfl ?_
      have hlR : R.length = k := by rw [← h2, List.length_map]; exact hl1
      have h9 := hO.o.kept u9 (fun x e hx => by have e := Option.some.inj e; subst e; have := (hO.o.hi hx).2; omega)
      have GF := grown_far yr u9 (fun q e => by have e := Option.some.inj e; omega)
      have hfin : OwG w9 w.heap.size a' k c' ks' R := ⟨h9.wide (by omega), by rw [hO.d, List.take_of_length_le (by omega)]⟩
      first | exact ⟨a', c', ks', rfl, hfin, GF⟩ | exact ⟨a', c', rfl, ⟨ks', hfin⟩, GF⟩
end Go.Proofs.Ytdpgblojdppfeaa
