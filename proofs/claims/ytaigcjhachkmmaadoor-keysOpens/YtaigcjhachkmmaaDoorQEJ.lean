import Derived.Test.YtaigcjhachkmmaaDoorQAD
import Derived.Lib.IfaceEq
import Derived.Deep.Upon
namespace Go.Proofs.YtaigcjhachkmmaaDoor
open Go.RowKit
set_option maxRecDepth 100000
set_option linter.unusedVariables false
set_option linter.unusedSimpArgs false

theorem Tryd.elI : ElT 34 3 (.int .i64 0) 8 := ⟨Tryd.underlying34, by kernel_rfl, rfl, by decide⟩
theorem cloneI_any (a : Option Addr) (n cap : Nat) (X : List Value) (w : World) (hp : RdX w a n cap X) (hn : n ≤ 10000000000000) :
    Calls Tryd.prog 51 #[.slice a n cap] w fun e w' => ∃ a' c', e = .returned (.slice a' n c') ∧ AnsX 3 w' w.heap.size a' n c' X ∧ w.grownBy w' none := by
  cases a with
  | none =>
    have hc0 : cap = 0 := hp.nil rfl
    have hn0 : n = 0 := by have := hp.le; omega
    subst hc0 hn0
    have e : X = [] := List.eq_nil_of_length_eq_zero hp.len
    subst e
    have heq := fun w => Lib.run_eql_slice_nil (P := Tryd.prog) w 34 3 none 0 0 0 0 Tryd.underlying34
    go_enter Tryd.func51, Tryd.ntmps51
    go_wp2
    go_ret
    exact ⟨none, 0, rfl, AnsX.nil0 _ _ _, World.grownBy.refl _ _⟩
  | some ad =>
    have gA := World.grownBy_alloc w (.cells #[] 3) none
    have hA := heap_alloc_new w (.cells #[] 3)
    have hown : AnsX 3 (w.alloc (.cells #[] 3)) w.heap.size (some ⟨w.heap.size, 0, none⟩) 0 0 [] := ⟨⟨rfl, .inr ⟨w.heap.size, 0, #[], rfl, Nat.zero_le _, hA, Nat.le_refl _, Nat.zero_le _, rfl, rfl⟩⟩, (fun x h => by cases h), fun g h => by have e : w.heap.size = g := Option.some.inj h; omega⟩
    have hpA := hp.keep gA
    have heq := fun w => Lib.run_eql_slice_nil (P := Tryd.prog) w 34 3 (some ad) n cap 0 0 Tryd.underlying34
    go_enter Tryd.func51, Tryd.ntmps51
    go_wp2_with (at_builtin; refine wpList_apX Tryd.elI rfl _ _ rfl _ 0 0 w.heap.size [] rfl hown (by simp) _ n cap X rfl hpA (by omega) (by omega) ?_; intro a' c' w2 hA2 hg2)
    go_ret
    rw [Nat.zero_add] at *
    exact ⟨a', c', rfl, hA2, grown_far gA hg2 (fun x hx => by have e : w.heap.size = x := Option.some.inj hx; omega)⟩
theorem step_stC (w : World) {ops : Array Oper} {o : Oper} {a : Act} {K : Act → World → Prop} {Q : Exit → Act → World → Prop} {E : Prop} (hg : o.guard = none) (t : TypeId) (p x : Operand) (hop : o.op = Op.store t p x)
    (g i : Nat) (ty : TypeId) (A A' : Array Value) (v : Value) (hp : a.eval p = .pointer (some ⟨g, i, none⟩)) (hx : a.eval x = v) (hB : BxS w g ty A)
    (hst : ∀ w' : World, (∃ u, w'.cell? ⟨g, i, none⟩ = some u) → w'.frozen? ⟨g, i, none⟩ = false → (Instr.storeAt t (.pointer (some ⟨g, i, none⟩)) v).run Tryd.prog w' = .ok () (w'.setCell ⟨g, i, none⟩ v)) (hi : i < A.size) (hA : A.setIfInBounds i v = A')
    (hK : ∀ w', BxS w' g ty A' → w.grownBy w' (some g) → K (a.put o.dst undef) w') :
    if Region.wanted o (yielded ops a.tmps) = true then Oper.wp Tryd.prog o a w K Q else E := by
  have hw : Region.wanted o (yielded ops a.tmps) = true := by simp [Region.wanted, hg]
  rw [if_pos hw]
  have hc : ∃ u, w.cell? ⟨g, i, none⟩ = some u := ⟨A[i], by rw [cell_of_row w g i _ _ _ hB]; simp [hi]⟩
  have hf := frozen_of_row w g i _ _ hB
  have hfin := hK _ (by unfold BxS; rw [heap_setCell_same w g i _ _ _ hB, hA]) (grown_set w g i v)
  unfold Oper.wp
  simp [execOp, hop, hp, hx, hst w hc hf, Result.andThen, Oper.upon]
  exact hfin
theorem RdI.x {w : World} {a : Option Addr} {n c : Nat} {S : List Int} (h : RdI w a n c S) : RdX w a n c (zys S) := by
  refine ⟨by rw [zys_length]; exact h.len, h.le, h.max, h.nil, zys_one S, fun h0 => ?_⟩
  obtain ⟨b, off, e, hb, hc⟩ := h.at' h0
  refine ⟨b, off, e, hb, fun i u hu => ?_⟩
  have hi : i < S.length := by
    have := (List.getElem?_eq_some_iff.1 hu).1
    rw [zys_length] at this; exact this
  rw [zys_at S i hi] at hu
  rw [← hu]
  exact hc i (by rw [← h.len]; exact hi)
theorem AnsX.z {w : World} {lo : Nat} {a : Option Addr} {n c : Nat} {S : List Int} (h : AnsX 3 w lo a n c (zys S)) : AnsZ w lo a n c S := ⟨h.own, h.new⟩
theorem AnsZ.x {w : World} {lo : Nat} {a : Option Addr} {n c : Nat} {S : List Int} (h : AnsZ w lo a n c S) : AnsX 3 w lo a n c (zys S) := ⟨h.own, zys_one S, h.new⟩
set_option maxHeartbeats 8000000 in
theorem copyKey_any (kk : Kw) (w : World) (h : RdI w kk.a kk.n kk.c kk.W) (hn : kk.n ≤ 10000000000000) :
    Calls Tryd.prog 35 #[.agg #[.int .i64 kk.id, .slice kk.a kk.n kk.c, .int .i64 kk.tp, .int .i64 kk.sn]] w fun e w' => ∃ a' c', e = .returned (.agg #[.int .i64 kk.id, .slice a' kk.n c', .int .i64 kk.tp, .int .i64 kk.sn]) ∧ AnsZ w' w.heap.size a' kk.n c' kk.W ∧ w.grownBy w' none := by
  have b0 := BxS.new w 36 #[.int .i64 kk.id, .slice kk.a kk.n kk.c, .int .i64 kk.tp, .int .i64 kk.sn]
  have g0 := World.grownBy_alloc w (.cells #[.int .i64 kk.id, .slice kk.a kk.n kk.c, .int .i64 kk.tp, .int .i64 kk.sn] 36) none
  generalize hw0 : w.alloc (.cells #[.int .i64 kk.id, .slice kk.a kk.n kk.c, .int .i64 kk.tp, .int .i64 kk.sn] 36) = w0 at b0 g0
  have hz0 : w0.heap.size = w.heap.size + 1 := by rw [← hw0]; simp
  have b1 := BxS.new w0 36 #[.int .i64 0, .slice none 0 0, .int .i64 0, .int .i64 0]
  have g1 := World.grownBy_alloc w0 (.cells #[.int .i64 0, .slice none 0 0, .int .i64 0, .int .i64 0] 36) none
  generalize hw1 : w0.alloc (.cells #[.int .i64 0, .slice none 0 0, .int .i64 0, .int .i64 0] 36) = w1 at b1 g1
  rw [hz0] at b1
  have sz1 : w.heap.size + 2 ≤ w1.heap.size := by rw [← hw1]; simp [hz0]
  have p0 := b0.keep g1 (by simp)
  have G1 := grown_trans g0 g1
  have i4 := Tryd.info_ky4
  have kC := cloneI_any kk.a kk.n kk.c (zys kk.W) w1 (h.keep G1).x hn
  obtain ⟨t0, t1, t2, t3⟩ := BxS.cell4 p0
  have s0 : True := trivial
  go_enter Tryd.func35, Tryd.ntmps35
  go_wp2_with (first
    | (go_at_call 51; have _t := s0; clear s0; refine kC.mono ?_; rintro e w2 ⟨xa, xc, rfl, hX, y2⟩; have p2 := p0.keep y2 (by simp); clear t0 t1 t2 t3; have s1 : True := trivial)
    | (have _t := s1; clear s1; refine wpList_stC _ rfl _ _ _ rfl w.heap.size 1 36 _ #[.int .i64 kk.id, .slice xa kk.n xc, .int .i64 kk.tp, .int .i64 kk.sn] (.slice xa kk.n xc) rfl rfl p2 (stc_ints _ _ _ _ _) (by show 1 < 4; decide) rfl ?_; intro w3 b3 u3; obtain ⟨t0, t1, t2, t3⟩ := BxS.cell4 b3; have q1 := (b1.keep y2 (by simp)).keep u3 (fun e => by have e := Option.some.inj e; omega); have s2 : True := trivial)
    | (have _t := s2; clear s2; refine wpList_stX _ rfl _ (.tmp 2) (.tmp 7) rfl (w.heap.size + 1) _ _ rfl rfl q1 i4 rfl (by simp [Value.oneCell']) ?_; intro w9 b9 u9))
  refine bodyPost_ret (results_cellQ1 rfl _ _ _ ⟨w.heap.size + 1, 0, none⟩ _ rfl (BxS.load (t := 36) b9 Tryd.underlying36 i4)) rfl ?_
  have hX3 := (hX.z.kept u3 (by cases e2 : (Value.slice xa kk.n xc).ownBlock with | none => exact .inl rfl | some x => exact .inr (fun e3 => by have e3 := Option.some.inj e3; have := hX.new x e2; omega))).kept u9 (by cases e2 : (Value.slice xa kk.n xc).ownBlock with | none => exact .inl rfl | some x => exact .inr (fun e3 => by have e3 := Option.some.inj e3; have := hX.new x e2; omega))
  have GF := grown_far (grown_far (grown_trans G1 y2) u3 (fun q e => by have e := Option.some.inj e; omega)) u9 (fun q e => by have e := Option.some.inj e; omega)
  first | exact ⟨xa, xc, rfl, hX3.wide (by omega), GF⟩ | exact ⟨⟨xa, xc, rfl, hX3.wide (by omega)⟩, GF⟩
set_option maxHeartbeats 16000000 in
/-- copyRing -/
theorem copyRing_any (a : Option Addr) (n c : Nat) (R : List Kd) (w : World) (h : RdG w a n c R) (hF : ∀ k, k ∈ R → k.W.length ≤ 1000) (hn : n ≤ 1000) :
    Calls Tryd.prog 21 #[.agg #[.slice a n c]] w fun e w' => ∃ (a' : Option Addr) (c' : Nat) (ks' : List Kw), e = .returned (.agg #[.slice a' n c']) ∧ OwG w' w.heap.size a' n c' ks' R ∧ w.grownBy w' none := by
  obtain ⟨ks, h1, h2⟩ := h.ex
  have hl1 := h1.len
  have b0 := BxS.new w 24 #[.slice a n c]
  have g0 := World.grownBy_alloc w (.cells #[.slice a n c] 24) none
  generalize hw0 : w.alloc (.cells #[.slice a n c] 24) = w0 at b0 g0
  have hz0 : w0.heap.size = w.heap.size + 1 := by rw [← hw0]; simp
  have b1 := BxS.new w0 24 #[.slice none 0 0]
  have g1 := World.grownBy_alloc w0 (.cells #[.slice none 0 0] 24) none
  generalize hw1 : w0.alloc (.cells #[.slice none 0 0] 24) = w1 at b1 g1
  have hz1 : w1.heap.size = w.heap.size + 2 := by rw [← hw1]; simp [hz0]
  rw [hz0] at b1
  have b2 := BxS.new w1 24 #[.slice none 0 0]
  have g2 := World.grownBy_alloc w1 (.cells #[.slice none 0 0] 24) none
  generalize hw2 : w1.alloc (.cells #[.slice none 0 0] 24) = w2 at b2 g2
  rw [hz1] at b2
  have sz2 : w.heap.size + 3 ≤ w2.heap.size := by rw [← hw2]; simp [hz1]
  have p0 := (b0.keep g1 (by simp)).keep g2 (by simp)
  have p1 := b1.keep g2 (by simp)
  have G2 := grown_trans (grown_trans g0 g1) g2
  have H2 := h1.keep G2
  have i4 := Tryd.info_ky4
  have i1 := Tryd.info_rg1
  have hmm : maxLen ≤ 9223372036854775807 := by decide
  have hle := h1.le
  have hmx := h1.max
  have x0 : w2.cell? ⟨w.heap.size, 0, none⟩ = some (.slice a n c) := p0.cell 0 (by show 0 < 1; decide)
  clear h
  go_enter Tryd.func21, Tryd.ntmps21
  go_wp2
  clear x0
  go_loopw [9] (fun iv wr => ∃ (k : Nat) (a' : Option Addr) (c' : Nat) (ks' : List Kw), iv = .int .i64 k ∧ k ≤ n ∧ BxS wr (w.heap.size + 2) 24 #[.slice a' k c'] ∧ BxS wr (w.heap.size + 1) 24 #[.slice none 0 0] ∧ OwG wr w2.heap.size a' k c' ks' (R.take k) ∧ w.grownBy wr none ∧ w2.heap.size ≤ wr.heap.size) (fun iv _ => n - (intOf iv).toNat)
  case atStart => exact ⟨0, none, 0, [], by go_num, Nat.zero_le _, b2, p1, OwG.nil _ _, G2, Nat.le_refl _⟩
  case round =>
    obtain ⟨k, a', c', ks', rfl, hk, hB, hB1, hO, yr, hszl⟩ := hrel
    by_cases hlt : k < n
    · have hlt' : (k : Int) < (n : Int) := by omega
      obtain ⟨kk, hi, hd1⟩ := map_d_at h2 k (by omega)
      have hm1 : kk ∈ ks := List.mem_of_getElem? hi
      obtain ⟨ba, oa, ea, _⟩ := H2.at' (by omega)
      subst ea
      have HA := h1.keep yr
      obtain ⟨q0, q1, q2, q3⟩ := HA.four hi
      have hW := HA.ws kk hm1
      have hwn : kk.n ≤ 1000 := by
        have := hF kk.d (by rw [← h2]; exact List.mem_map_of_mem hm1)
        rw [← hW.len]; exact this
      have hwk : IntKind.i64.wrap ((k : Int) + 1) = (k : Int) + 1 := wrap_i64_in _ (by omega) (by omega)
      have HTK : Hid (R.take (k + 1) = R.take k ++ [kk.d]) := by show _ = _; rw [List.take_add_one, hd1]; rfl
      clear hd1
      have b5 := BxS.new wr 36 #[.int .i64 0, .slice none 0 0, .int .i64 0, .int .i64 0]
      have g5 := World.grownBy_alloc wr (.cells #[.int .i64 0, .slice none 0 0, .int .i64 0, .int .i64 0] 36) none
      have hBl := hB.lt
      go_wp2_with (refine wpList_stX _ rfl _ (.tmp 5) (.tmp 12) rfl wr.heap.size _ _ rfl rfl b5 i4 rfl (by simp [Value.oneCell']) ?_; intro w5 b6 u6)
      have Y6 := grown_far g5 u6 (fun q e => by have e := Option.some.inj e; omega)
      clear q0 q1 q2 q3
      have SD := grown_trans Y6 (grown_drew w5 none)
      have SS : BxS w5.drew (w.heap.size + 2) 24 #[.slice a' k c'] ∧ BxS w5.drew wr.heap.size 36 #[.int .i64 kk.id, .slice kk.a kk.n kk.c, .int .i64 kk.tp, .int .i64 kk.sn] := ⟨hB.keep SD (by simp), b6.keep (grown_drew w5 none) (by simp)⟩
      refine wp_regionL (fun wz => BxS wz (w.heap.size + 2) 24 #[.slice a' k c'] ∧ BxS wz wr.heap.size 36 #[.int .i64 kk.id, .slice kk.a kk.n kk.c, .int .i64 kk.tp, .int .i64 kk.sn]) [7] #[false, false, false, false, false, false, false, false] rfl (by kernel_rfl) ?_
      refine wpAnyZ_take [1, 5, 7] 0 (.pointer (some ⟨w.heap.size + 2, 0, none⟩)) rfl (by kernel_rfl) (fun _ _ _ h => h) SS rfl (by rintro wz ⟨hz1, hz2⟩; have z0 : wz.cell? ⟨w.heap.size + 2, 0, none⟩ = some (.slice a' k c') := hz1.cell 0 (by show 0 < 1; decide); obtain ⟨z1, z2, z3, z4⟩ := BxS.cell4 hz2; go_simp) ?_
      try simp only [List.getElem_toArray, List.getElem_cons_succ, List.getElem_cons_zero, Act.put, List.setIfInBounds_toArray, List.set_cons_zero, List.set_cons_succ]
      refine wpAnyZ_take [5, 7] 1 (.slice a' k c') rfl (by kernel_rfl) (fun _ _ _ h => h) SS rfl (by rintro wz ⟨hz1, hz2⟩; have z0 : wz.cell? ⟨w.heap.size + 2, 0, none⟩ = some (.slice a' k c') := hz1.cell 0 (by show 0 < 1; decide); obtain ⟨z1, z2, z3, z4⟩ := BxS.cell4 hz2; go_simp) ?_
      try simp only [List.getElem_toArray, List.getElem_cons_succ, List.getElem_cons_zero, Act.put, List.setIfInBounds_toArray, List.set_cons_zero, List.set_cons_succ]
      refine wpAnyZ_take [3, 4, 5, 7] 2 (.agg #[.int .i64 kk.id, .slice kk.a kk.n kk.c, .int .i64 kk.tp, .int .i64 kk.sn]) rfl (by kernel_rfl) (fun _ _ _ h => h) SS rfl (by rintro wz ⟨hz1, hz2⟩; have z0 : wz.cell? ⟨w.heap.size + 2, 0, none⟩ = some (.slice a' k c') := hz1.cell 0 (by show 0 < 1; decide); obtain ⟨z1, z2, z3, z4⟩ := BxS.cell4 hz2; go_simp) ?_
      try simp only [List.getElem_toArray, List.getElem_cons_succ, List.getElem_cons_zero, Act.put, List.setIfInBounds_toArray, List.set_cons_zero, List.set_cons_succ]
      generalize w5.drew = w6 at *
      have hO6 := hO.o.keep SD
      have hs6 := SD.size
      refine wpAnyZ_oneB 3 rfl (by kernel_rfl) (fun K hK => ?_)
      go_simp
      go_at_call 35
      refine (copyKey_any kk _ (hW.keep SD) (by omega)).mono ?_
      rintro e w7 ⟨xa, xc, rfl, hX7, y7⟩
      dsimp only
      have SS : BxS w7 (w.heap.size + 2) 24 #[.slice a' k c'] ∧ BxS w7 wr.heap.size 36 #[.int .i64 kk.id, .slice kk.a kk.n kk.c, .int .i64 kk.tp, .int .i64 kk.sn] := ⟨SS.1.keep y7 (by simp), SS.2.keep y7 (by simp)⟩
      refine hK _ _ (fun _ => SS) ?_
      try simp only [List.getElem_toArray, List.getElem_cons_succ, List.getElem_cons_zero, Act.put, List.setIfInBounds_toArray, List.set_cons_zero, List.set_cons_succ]
      have hO7 := hO6.keep y7
      have hs7 := y7.size
      refine wpAnyZ_oneB 4 rfl (by kernel_rfl) (fun K hK => ?_)
      go_simp
      have yA := World.grownBy_alloc w7 (.cells #[.int .i64 kk.id, .slice xa kk.n xc, .int .i64 kk.tp, .int .i64 kk.sn] 36) none
      refine hK _ _ (fun _ => ⟨SS.1.keep yA (by simp), SS.2.keep yA (by simp)⟩) ?_
      try simp only [List.getElem_toArray, List.getElem_cons_succ, List.getElem_cons_zero, Act.put, List.setIfInBounds_toArray, List.set_cons_zero, List.set_cons_succ]
      refine wpAnyZ_oneB 5 rfl (by kernel_rfl) (fun K hK => ?_)
      refine step_psK w7 w2.heap.size ⟨kk.id, xa, kk.n, xc, kk.W, kk.tp, kk.sn⟩ rfl _ _ rfl a' k c' ks' rfl hO7 (by omega) rfl (by omega) _ rfl (hX7.wide (by omega)) (HA.bd kk hm1) (fun q hq y hy e => by have h9 := (hO.o.hi (.inr ⟨q, hq, hy⟩)).1; have h10 := hX7.new y e; omega) ?_
      intro gx cx w9 hO9 u9 hgx
      have hne : ∀ t cs g, BxS w7 g t cs → 36 ≠ t → some g ≠ (Value.slice a' k c').ownBlock := fun t cs g hb ht e => hO7.box hb ht e.symm
      have hB9 := SS.1.keep u9 (hne _ _ _ SS.1 (by decide))
      have hB19 := (((hB1.keep SD (by simp)).keep y7 (by simp))).keep u9 (hne _ _ _ ((hB1.keep SD (by simp)).keep y7 (by simp)) (by decide))
      have hK9 : BxS w9 wr.heap.size 36 #[.int .i64 kk.id, .slice kk.a kk.n kk.c, .int .i64 kk.tp, .int .i64 kk.sn] := SS.2.keep u9 (fun e => by have := (hO.o.hi (.inl e.symm)).1; omega)
      have SS : BxS w9 (w.heap.size + 2) 24 #[.slice a' k c'] ∧ BxS w9 wr.heap.size 36 #[.int .i64 kk.id, .slice kk.a kk.n kk.c, .int .i64 kk.tp, .int .i64 kk.sn] := ⟨hB9, hK9⟩
      refine hK _ _ (fun _ => SS) ?_
      try simp only [List.getElem_toArray, List.getElem_cons_succ, List.getElem_cons_zero, Act.put, List.setIfInBounds_toArray, List.set_cons_zero, List.set_cons_succ]
      refine wpAnyZ_take [7] 6 (.pointer (some ⟨w.heap.size + 2, 0, none⟩)) rfl (by kernel_rfl) (fun _ _ _ h => h) SS rfl (by rintro wz ⟨hz1, hz2⟩; have z0 : wz.cell? ⟨w.heap.size + 2, 0, none⟩ = some (.slice a' k c') := hz1.cell 0 (by show 0 < 1; decide); obtain ⟨z1, z2, z3, z4⟩ := BxS.cell4 hz2; go_simp) ?_
      try simp only [List.getElem_toArray, List.getElem_cons_succ, List.getElem_cons_zero, Act.put, List.setIfInBounds_toArray, List.set_cons_zero, List.set_cons_succ]
      refine wpAnyZ_oneB 7 rfl (by kernel_rfl) (fun K hK => ?_)
      refine step_stC _ rfl _ _ _ rfl (w.heap.size + 2) 0 24 _ #[.slice (some ⟨gx, 0, none⟩) (k + 1) cx] (.slice (some ⟨gx, 0, none⟩) (k + 1) cx) rfl rfl SS.1 (stc_keys _ _ _ _ _) (by show 0 < 1; decide) rfl ?_
      intro w10 b10 u10
      refine hK _ _ (fun h => absurd (by decide) h) ?_
      try simp only [List.getElem_toArray, List.getElem_cons_succ, List.getElem_cons_zero, Act.put, List.setIfInBounds_toArray, List.set_cons_zero, List.set_cons_succ]
      refine wpAnyZ_doneB (by kernel_rfl) ?_ _
      have hO10 := hO9.kept u10 (fun x e hx => by have e := Option.some.inj e; subst e; have := (hO9.hi hx).2; omega)
      have hB110 := hB19.keep u10 (fun e => by have e := Option.some.inj e; omega)
      have G10 := grown_far (grown_far (grown_trans (grown_trans yr SD) y7) u9 (fun q e => by have := (hO.o.hi (.inl e)).2; omega)) u10 (fun q e => by have e := Option.some.inj e; omega)
      go_wp2
      go_roundw
      case rel => exact ⟨k + 1, _, cx, _, by go_num, by omega, b10, hB110, ⟨hO10, by rw [HTK.out, List.map_append, hO.d]; rfl⟩, G10, by have := u9.size; have := u10.size; omega⟩
      case measure => simp [intOf]; omega
    · have hlt' : ¬ (k : Int) < (n : Int) := by omega
      obtain rfl : k = n := by omega
      have x2 : wr.cell? ⟨w.heap.size + 2, 0, none⟩ = some (.slice a' k c') := hB.cell 0 (by show 0 < 1; decide)
      go_wp2_with (refine wpList_stX _ rfl _ (.tmp 2) (.tmp 21) rfl (w.heap.size + 1) _ _ rfl rfl hB1 i1 rfl (by simp [Value.oneCell']) ?_; intro w9 b9 u9)
      refine bodyPost_ret (results_cellQ1 rfl _ _ _ ⟨w.heap.size + 1, 0, none⟩ _ rfl (BxS.load (t := 24) b9 Tryd.underlying24 i1)) rfl ?_
      have hlR : R.length = k := by rw [← h2, List.length_map]; exact hl1
      have h9 := hO.o.kept u9 (fun x e hx => by have e := Option.some.inj e; subst e; have := (hO.o.hi hx).2; omega)
      have GF := grown_far yr u9 (fun q e => by have e := Option.some.inj e; omega)
      have hfin : OwG w9 w.heap.size a' k c' ks' R := ⟨h9.wide (by omega), by rw [hO.d, List.take_of_length_le (by omega)]⟩
      first | exact ⟨a', c', ks', rfl, hfin, GF⟩ | exact ⟨a', c', rfl, ⟨ks', hfin⟩, GF⟩

/-- where the first key of an ID lies -/
def fiN : List Kd → Int → Nat
  | [], _ => 0
  | x :: R, z => if x.id = z then 0 else fiN R z + 1
theorem hasI_cons (x : Kd) (R : List Kd) (j : Nat) (z : Int) : hasI (x :: R) (j + 1) z = (decide (x.id = z) || hasI R j z) := by
  unfold hasI
  rw [List.take_succ_cons, List.any_cons]
theorem fiN_at (R : List Kd) (j : Nat) (x : Kd) (z : Int) (h : R[j]? = some x) (hz : x.id = z) (hn : hasI R j z = false) : fiN R z = j := by
  induction R generalizing j with
  | nil => cases h
  | cons y R ih =>
    cases j with
    | zero =>
      have h : some y = some x := h
      have h := Option.some.inj h
      subst h
      exact if_pos hz
    | succ j =>
      rw [hasI_cons, Bool.or_eq_false_iff] at hn
      show (if y.id = z then 0 else fiN R z + 1) = j + 1
      rw [if_neg (of_decide_eq_false hn.1), ih j h hn.2]
theorem fiN_no (R : List Kd) (z : Int) (hn : hasI R R.length z = false) : fiN R z = R.length := by
  induction R with
  | nil => rfl
  | cons y R ih =>
    rw [List.length_cons, hasI_cons, Bool.or_eq_false_iff] at hn
    show (if y.id = z then 0 else fiN R z + 1) = R.length + 1
    rw [if_neg (of_decide_eq_false hn.1), ih hn.2]
def fiX (R : List Kd) (z : Int) : Int := if fiN R z < R.length then (fiN R z : Int) else -1
set_option maxHeartbeats 4000000 in
theorem find1_any (g : Nat) (z : Int) (kk : Kw) (w : World) (b : BxS w g 3 #[.int .i64 z]) :
    Calls Tryd.prog 41 #[.agg #[.int .i64 kk.id, .slice kk.a kk.n kk.c, .int .i64 kk.tp, .int .i64 kk.sn], .pointer (some ⟨g, 0, none⟩)] w fun e w' => e = .returned (.bool (kk.id == z)) ∧ w.grownBy w' none := by
  have b0 := BxS.new w 36 #[.int .i64 kk.id, .slice kk.a kk.n kk.c, .int .i64 kk.tp, .int .i64 kk.sn]
  have g0 := World.grownBy_alloc w (.cells #[.int .i64 kk.id, .slice kk.a kk.n kk.c, .int .i64 kk.tp, .int .i64 kk.sn] 36) none
  generalize hw0 : w.alloc (.cells #[.int .i64 kk.id, .slice kk.a kk.n kk.c, .int .i64 kk.tp, .int .i64 kk.sn] 36) = w0 at b0 g0
  have x0 : w0.cell? ⟨g, 0, none⟩ = some (.int .i64 z) := (b.keep g0 (by simp)).cell 0 (by show 0 < 1; decide)
  obtain ⟨t0, t1, t2, t3⟩ := BxS.cell4 b0
  go_enter Tryd.func41, Tryd.ntmps41
  go_wp2
  go_ret
  exact ⟨rfl, g0⟩
set_option maxHeartbeats 16000000 in
theorem index_any (g : Nat) (z : Int) (a : Option Addr) (n c : Nat) (R : List Kd) (w : World) (h : RdG w a n c R) (b : BxS w g 3 #[.int .i64 z]) :
    Calls Tryd.prog 40 #[.slice a n c, .func (.func 41) #[] #[.pointer (some ⟨g, 0, none⟩)]] w fun e w' => e = .returned (.int .i64 (fiX R z)) ∧ w.grownBy w' none := by
  obtain ⟨ks, h1, h2⟩ := h.ex
  have hl1 := h1.len
  have hlR := h.len
  have hmm : maxLen ≤ 9223372036854775807 := by decide
  have hle := h1.le
  have hmx := h1.max
  clear h
  go_enter Tryd.func40, Tryd.ntmps40
  go_wp2
  go_loopw [8] (fun iv wr => ∃ (k : Nat), iv = .int .i64 k ∧ k ≤ n ∧ hasI R k z = false ∧ w.grownBy wr none) (fun iv _ => n - (intOf iv).toNat)
  case atStart => exact ⟨0, by go_num, Nat.zero_le _, by simp [hasI], World.grownBy.refl _ _⟩
  case round =>
    obtain ⟨k, rfl, hk, hno, yr⟩ := hrel
    by_cases hlt : k < n
    · have hlt' : (k : Int) < (n : Int) := by omega
      obtain ⟨kk, hi, hd1⟩ := map_d_at h2 k (by omega)
      obtain ⟨ba, oa, ea, _⟩ := h1.at' (by omega)
      subst ea
      have HA := h1.keep yr
      obtain ⟨q0, q1, q2, q3⟩ := HA.four hi
      have hwk : IntKind.i64.wrap ((k : Int) + 1) = (k : Int) + 1 := wrap_i64_in _ (by omega) (by omega)
      have kF := find1_any g z kk wr (b.keep yr (by simp))
      by_cases hid : kk.id = z
      · have hid' : (kk.id == z) = true := by rw [hid]; simp
        have HF : Hid (fiX R z = (k : Int)) := by show _ = _; unfold fiX; rw [fiN_at R k kk.d z hd1 hid hno, if_pos (by omega)]
        rw [hid'] at kF
        clear hid hid' hd1
        go_wp2_with (go_at_call 41; refine kF.mono ?_; rintro e w7 ⟨rfl, y7⟩)
        go_ret
        exact ⟨by rw [HF.out]; rfl, grown_trans yr y7⟩
      · have hid' : (kk.id == z) = false := beq_false_of_ne hid
        have hh : hasI R (k + 1) z = false := by rw [hasI_step R k kk.d hd1, hno]; show (_ || decide (kk.id = z)) = false; rw [decide_eq_false hid]; rfl
        rw [hid'] at kF
        clear hd1
        go_wp2_with (go_at_call 41; refine kF.mono ?_; rintro e w7 ⟨rfl, y7⟩)
        refine ⟨⟨k + 1, by go_num, by omega, hh, grown_trans yr y7⟩, by simp [intOf]; omega⟩
    · have hlt' : ¬ (k : Int) < (n : Int) := by omega
      obtain rfl : k = n := by omega
      have HF : Hid (fiX R z = -1) := by show _ = _; unfold fiX; rw [fiN_no R z (by rw [hlR]; exact hno), if_neg (by omega)]
      go_wp2
      go_ret
      exact ⟨by rw [HF.out]; rfl, yr⟩
set_option maxHeartbeats 4000000 in
theorem find_any (a : Option Addr) (n c : Nat) (R : List Kd) (z : Int) (w : World) (h : RdG w a n c R) :
    Calls Tryd.prog 24 #[.agg #[.slice a n c], .int .i64 z] w fun e w' => e = .returned (.int .i64 (fiX R z)) ∧ w.grownBy w' none := by
  have b0 := BxS.new w 24 #[.slice a n c]
  have g0 := World.grownBy_alloc w (.cells #[.slice a n c] 24) none
  generalize hw0 : w.alloc (.cells #[.slice a n c] 24) = w0 at b0 g0
  have hz0 : w0.heap.size = w.heap.size + 1 := by rw [← hw0]; simp
  have b1 := BxS.new w0 3 #[.int .i64 z]
  have g1 := World.grownBy_alloc w0 (.cells #[.int .i64 z] 3) none
  generalize hw1 : w0.alloc (.cells #[.int .i64 z] 3) = w1 at b1 g1
  rw [hz0] at b1
  have G1 := grown_trans g0 g1
  have x0 : w1.cell? ⟨w.heap.size, 0, none⟩ = some (.slice a n c) := (b0.keep g1 (by simp)).cell 0 (by show 0 < 1; decide)
  have kI := index_any (w.heap.size + 1) z a n c R w1 (h.keep G1) b1
  go_enter Tryd.func24, Tryd.ntmps24
  go_wp2_with (go_at_call 40; refine kI.mono ?_; rintro e w7 ⟨rfl, y7⟩)
  go_ret
  exact ⟨rfl, grown_trans G1 y7⟩

theorem step_app {w w' : World} {ops : Array Oper} {o : Oper} {a : Act} {K : Act → World → Prop} {Q : Exit → Act → World → Prop} {E : Prop} {t : TypeId} {v v1 v2 : Value} (hg : o.guard = none) (ht : o.type = t) (s x : Operand)
    (hop : o.op = Op.call { callee := .builtin .append, args := #[s, x], argTypes := #[t, t] }) (hs : a.eval s = v1) (hx : a.eval x = v2) (hrun : (Builtin.append_ #[t, t] t #[v1, v2]).run Tryd.prog w = .ok v w') (h : K (a.put o.dst v) w') :
    if Region.wanted o (yielded ops a.tmps) = true then Oper.wp Tryd.prog o a w K Q else E := by
  have hw : Region.wanted o (yielded ops a.tmps) = true := by simp [Region.wanted, hg]
  rw [if_pos hw]
  unfold Oper.wp
  simp [execOp, hop, resolve, invoke, builtin, ht, hs, hx, hrun, Result.andThen, Oper.upon]
  exact h
theorem own_takeK {w : World} {g n cap : Nat} {ks : List Kw} (h : w.ownsRow 0 36 4 (.slice (some ⟨g, 0, none⟩) n cap) n (flK ks)) (hl : ks.length = n) (m : Nat) (hm : m ≤ n) : w.ownsRow 0 36 4 (.slice (some ⟨g, 0, none⟩) m cap) m (flK (ks.take m)) := by
  refine ⟨by rw [flK_len, List.length_take]; omega, ?_⟩
  rcases h.2 with ⟨h1, _⟩ | ⟨g', cap', cur, h1, h2, h3, h4, h5, h6, h7⟩
  · simp at h1
  · simp only [Value.slice.injEq, Option.some.injEq, Addr.mk.injEq] at h1
    obtain ⟨⟨rfl, _⟩, _, rfl⟩ := h1
    refine .inr ⟨g, cap, cur, rfl, h2, h3, by omega, h5, h6, ?_⟩
    rw [← flK_take, ← h7, List.take_take]
    congr 1
    omega
theorem own_setK {w : World} {g n cap : Nat} {X : List Value} (h : w.ownsRow 0 36 4 (.slice (some ⟨g, 0, none⟩) n cap) n X) (i : Nat) (v : Value) (hi : n * 4 ≤ i) : (w.setCell ⟨g, i, none⟩ v).ownsRow 0 36 4 (.slice (some ⟨g, 0, none⟩) n cap) n X := by
  refine ⟨h.1, ?_⟩
  rcases h.2 with ⟨h1, _⟩ | ⟨g', cap', cur, h1, h2, h3, h4, h5, h6, h7⟩
  · simp at h1
  · simp only [Value.slice.injEq, Option.some.injEq, Addr.mk.injEq] at h1
    obtain ⟨⟨rfl, _⟩, _, rfl⟩ := h1
    refine .inr ⟨g, cap, cur.setIfInBounds i v, rfl, h2, heap_setCell_same w g i _ _ _ h3, h4, h5, by simpa using h6, ?_⟩
    rw [← h7, Array.toList_setIfInBounds, List.take_set_of_le hi]
theorem own_clrK {g n cap : Nat} {X : List Value} (vs : List Value) : ∀ (o : Nat) (w : World), w.ownsRow 0 36 4 (.slice (some ⟨g, 0, none⟩) n cap) n X → n * 4 ≤ o → (w.setCells g o vs).ownsRow 0 36 4 (.slice (some ⟨g, 0, none⟩) n cap) n X ∧ w.grownBy (w.setCells g o vs) (some g) := by
  induction vs with
  | nil => exact fun o w h _ => ⟨h, World.grownBy.refl _ _⟩
  | cons v vs ih =>
    intro o w h ho
    obtain ⟨k1, k2⟩ := ih (o + 1) _ (own_setK h o v ho) (by omega)
    exact ⟨k1, grown_trans (grown_set w g o v) k2⟩
theorem zero_key (w : World) : (zeroValue 36).run Tryd.prog w = .ok (.agg #[.int .i64 0, .slice none 0 0, .int .i64 0, .int .i64 0]) w := by go_simp
theorem run_clear_key (w : World) (ty : TypeId) (b o c : Nat) (hc : ∀ j, j < 4 → (w.cell? ⟨b, o + j, none⟩).isSome = true) (hf : ∀ j, j < 4 → w.frozen? ⟨b, o + j, none⟩ = false) :
    (Builtin.clear_ #[22] ty #[.slice (some ⟨b, o, none⟩) 1 c]).run Tryd.prog w = .ok (.tuple #[]) (w.setCells b o [.int .i64 0, .slice none 0 0, .int .i64 0, .int .i64 0]) := by
  have hzc : (Builtin.zeroCells (Value.agg #[.int .i64 0, .slice none 0 0, .int .i64 0, .int .i64 0]).cells 1).toList = [.int .i64 0, .slice none 0 0, .int .i64 0, .int .i64 0] := by first | kernel_rfl | decide +kernel | (simp [Builtin.zeroCells]; rfl)
  have hst := run_storeCells_cells (P := Tryd.prog) b o [.int .i64 0, .slice none 0 0, .int .i64 0, .int .i64 0] 0 w (by simpa using hc) (by simpa using hf) (by intro v hv; simp only [List.mem_cons, List.not_mem_nil, or_false] at hv; rcases hv with rfl | rfl | rfl | rfl <;> rfl)
  simp only [Nat.add_zero] at hst
  simp [Builtin.clear_, run_underlying Tryd.underlying22, zero_key, hzc, hst]
/-- a key less -/
theorem OwK.erase {w w' : World} {lo g n cap j : Nat} {ks : List Kw} (h : OwK w lo (some ⟨g, 0, none⟩) n cap ks) (hj : j < n) (ho : w'.ownsRow 0 36 4 (.slice (some ⟨g, 0, none⟩) (n - 1) cap) (n - 1) (flK (ks.eraseIdx j))) (hg : w.grownBy w' (some g)) : OwK w' lo (some ⟨g, 0, none⟩) (n - 1) cap (ks.eraseIdx j) := by
  have hl := h.len
  refine ⟨ho, by rw [List.length_eraseIdx_of_lt (by omega), hl], h.new, fun k hk => ?_, fun k hk => h.bd k (List.mem_of_mem_eraseIdx hk), h.apart.sublist (List.eraseIdx_sublist _ _)⟩
  have hm := List.mem_of_mem_eraseIdx hk
  refine (h.each k hm).kept hg ?_
  cases e : (Value.slice k.a k.n k.c).ownBlock with
  | none => exact .inl rfl
  | some x =>
    refine .inr (fun e2 => ?_)
    have e2 : x = g := Option.some.inj e2
    subst e2
    rcases h.own.2 with ⟨h1, _⟩ | ⟨y, cap', cur, h1, _, hh, _⟩
    · simp at h1
    · simp only [Value.slice.injEq, Option.some.injEq, Addr.mk.injEq] at h1
      obtain ⟨⟨rfl, _⟩, _, rfl⟩ := h1
      exact (h.each k hm).box hh (by decide) e
/-- what Drop answers -/
def drO (R : List Kd) (z : Int) : Bool := decide (fiN R z < R.length)
def drV (R : List Kd) (z : Int) : List Kd := if rmB R = true then (if drO R z = true then R.eraseIdx (fiN R z) else R) else []
def drE (R : List Kd) (z : Int) : Nat := if rmB R = true then (if drO R z = true then 0 else 10) else 11
theorem rmA_at {R : List Kd} {n : Nat} (h : rmA R n = true) : ∀ i, i < n → kdB (R.getD i kd0) = true := by
  induction n with
  | zero => intro i hi; omega
  | succ n ih =>
    intro i hi
    have h : (rmA R n && (kdB (R.getD n kd0) && !hasI R n (R.getD n kd0).id)) = true := h
    rw [Bool.and_eq_true, Bool.and_eq_true] at h
    by_cases e : i = n
    · subst e; exact h.2.1
    · exact ih h.1 i (by omega)
theorem rm_ok {R : List Kd} (h : rmB R = true) : R.length ≤ 8 ∧ ∀ k, k ∈ R → k.W.length = 8 := by
  unfold rmB at h
  rw [Bool.and_eq_true, decide_eq_true_eq] at h
  refine ⟨h.1, fun k hk => ?_⟩
  obtain ⟨i, hi, rfl⟩ := List.mem_iff_getElem.1 hk
  have h2 := rmA_at h.2 i hi
  rw [List.getD_eq_getElem?_getD, List.getElem?_eq_getElem hi] at h2
  have h2 : kdB R[i] = true := h2
  unfold kdB kmB at h2
  simp only [Bool.and_eq_true, beq_iff_eq] at h2
  have h3 := h2.1.1.2
  unfold wdE at h3
  by_cases h8 : R[i].W.length = 8
  · exact h8
  · rw [if_neg h8] at h3; cases h3
theorem map_erase (ks : List Kw) (j : Nat) : (ks.eraseIdx j).map Kw.d = (ks.map Kw.d).eraseIdx j := by
  rw [List.eraseIdx_eq_take_drop_succ, List.eraseIdx_eq_take_drop_succ, List.map_append, List.map_take, List.map_drop]
theorem fiN_le (R : List Kd) (z : Int) : fiN R z ≤ R.length := by
  induction R with
  | nil => exact Nat.le_refl _
  | cons x R ih =>
    show (if x.id = z then 0 else fiN R z + 1) ≤ R.length + 1
    split <;> omega
theorem OwK.someK {w : World} {lo : Nat} {a : Option Addr} {n c : Nat} {ks : List Kw} (h : OwK w lo a n c ks) (hn : 0 < n) : ∃ g, a = some ⟨g, 0, none⟩ := by
  rcases h.own.2 with ⟨h1, h2⟩ | ⟨g, cap', cur, h1, _⟩
  · omega
  · simp only [Value.slice.injEq] at h1; exact ⟨g, h1.1⟩
theorem OwG.far {w w' : World} {lo x : Nat} {a : Option Addr} {n c : Nat} {ks : List Kw} {R : List Kd} (h : OwG w lo a n c ks R) (hg : w.grownBy w' (some x)) (hx : x < lo) : OwG w' lo a n c ks R :=
  ⟨h.o.kept hg (fun y e hy => by have e := Option.some.inj e; subst e; have := (h.o.hi hy).2; omega), h.d⟩
theorem run_appK0 (w : World) (ty : TypeId) (base : Option Addr) (n cap : Nat) (hle : n ≤ cap) (ad : Addr) (c : Nat) : (Builtin.append_ #[22, 22] ty #[.slice base n cap, .slice (some ad) 0 c]).run Tryd.prog w = .ok (.slice base n cap) w := by
  obtain ⟨i0, hi, hz0, hz1, hz2⟩ := info_parts Tryd.info_ky
  exact run_append_nothing w 22 22 ty 36 i0 Tryd.underlying22 hi base n cap hle _ (Src.ofSlice w Tryd.underlying22 ad 0 c [] (by simp) (fun j u hu => by cases hu) (fun u hu => by cases hu))
theorem RdK.take {w : World} {g n c : Nat} {ks : List Kw} (h : RdK w (some ⟨g, 0, none⟩) n c ks) (m : Nat) (hm : m ≤ n) : RdK w (some ⟨g, 0, none⟩) m m (ks.take m) := by
  have hl := h.len
  have hle := h.le
  have hmx := h.max
  refine ⟨by rw [List.length_take]; omega, Nat.le_refl _, by omega, fun h0 => ?_, fun k hk => h.ws k (List.mem_of_mem_take hk), fun k hk => h.bd k (List.mem_of_mem_take hk)⟩
  obtain ⟨b, off, e, hb, hc⟩ := h.at' (by omega)
  refine ⟨b, off, e, hb, fun i k hi j hj => hc i k ?_ j hj⟩
  rw [List.getElem?_take] at hi
  split at hi
  · exact hi
  · cases hi
theorem rdX_one (w : World) (e : TypeId) (v : Value) (h1 : v.oneCell' = true) : RdX (w.alloc (.cells #[v] e)) (some ⟨w.heap.size, 0, none⟩) 1 1 [v] := by
  refine ⟨rfl, Nat.le_refl _, by decide, (fun h => by cases h), ?_, fun _ => ⟨w.heap.size, 0, rfl, by simp, fun i u hu => ?_⟩⟩
  · intro u hu
    have e : u = v := by simpa using hu
    rw [e]; exact h1
  · rw [cell_of_row _ _ _ _ _ _ (heap_alloc_new w _), Nat.zero_add]
    simpa using hu
theorem wpList_psY {t e : TypeId} {z : Value} {by' : Nat} (E : ElT t e z by') (w : World) (u : Value) (h1 : u.oneCell' = true) {ops : Array Oper} {rest : List Oper} {o : Oper} {a : Act} {Q : Exit → Act → World → Prop} (hg : o.guard = none) (s x : Operand)
    (hop : o.op = Op.call { callee := .builtin .append, args := #[s, x], argTypes := #[t, t] }) (ao : Option Addr) (m co lo : Nat) (D : List Value) (hs : a.eval s = .slice ao m co)
    (hA : AnsX e w lo ao m co D) (hlo : lo ≤ w.heap.size) (hx : a.eval x = .slice (some ⟨w.heap.size, 0, none⟩) 1 1) (hb : (m + 1) * by' ≤ 140737488351400) (hb3 : m + 1 ≤ 140737488351400)
    (hK : ∀ gx cx w', AnsX e w' lo (some ⟨gx, 0, none⟩) (m + 1) cx (D ++ [u]) → w.grownBy w' (Value.slice ao m co).ownBlock → ((Value.slice ao m co).ownBlock = some gx ∨ w.heap.size ≤ gx) → wpList Tryd.prog ops Q rest (a.put o.dst (.slice (some ⟨gx, 0, none⟩) (m + 1) cx)) w') :
    wpList Tryd.prog ops Q (o :: rest) a (w.alloc (.cells #[u] e)) := by
  obtain ⟨i0, hi, hz0, hz1, hz2⟩ := info_parts E.inf
  have gA := World.grownBy_alloc w (.cells #[u] e) none
  have hR := rdX_one w e u h1
  have hpos := E.pos
  refine wpList_apS _ hg s x t e i0 z 1 by' E.und hi hz0 hz1 hz2 E.one (by decide) hop (.slice ao m co) m D hs (hA.own.alloc _) ⟨w.heap.size, 0, none⟩ 1 1 [u] hx rfl ?_ hR.one (by decide) (by unfold maxLen; omega) (by omega) ?_
  · intro j v hv
    obtain ⟨b, off, e', _, hc⟩ := hR.at' (by decide)
    cases e'
    rw [addr_add]
    exact hc j v hv
  · intro g c w' hgx hgr hown
    have hsz := gA.size
    refine hK g c w' ⟨hown, ?_, fun y hy => ?_⟩ (grown_trans (grown_weak gA _) hgr) ?_
    · intro v hv
      rcases List.mem_append.1 hv with h | h
      · exact hA.one v h
      · exact hR.one v h
    · have e' : g = y := Option.some.inj hy
      subst e'
      rcases hgx with h | h
      · exact hA.new g h
      · omega
    · rcases hgx with h | h
      · exact .inl h
      · exact .inr (by omega)
theorem over2_any (mk : Int) (a : Option Addr) (n cap lo : Nat) (S : List Int) (w : World) (h : AnsX 3 w lo a n cap (zys S)) (hn : n ≤ 17592186043904) :
    Calls Tryd.prog 48 #[.slice a n cap, .int .i64 mk] w fun e w' => e = .returned (.tuple #[]) ∧ w.grownBy w' (Value.slice a n cap).ownBlock := by
  have hm2 := h.max
  unfold maxLen at hm2
  go_enter Tryd.func48, Tryd.ntmps48
  go_wp2
  go_loopw [4] (fun i wr => ∃ (k : Nat) (X : List Value), k ≤ n ∧ i = .int .i64 k ∧ w.grownBy wr (Value.slice a n cap).ownBlock ∧ AnsX 3 wr lo a n cap X) (fun i _ => n - (intOf i).toNat)
  case atStart => exact ⟨0, _, by omega, rfl, World.grownBy.refl _ _, h⟩
  case round =>
    obtain ⟨k, X, hk, rfl, hgr, hA⟩ := hrel
    by_cases hlt : k < n
    · have hlt' : (k : Int) < (n : Int) := by omega
      rcases hA.cases with ⟨_, h0, _⟩ | ⟨g, e, _, _⟩
      · omega
      subst e
      have hc := hA.cell k _ (List.getElem?_eq_getElem (by rw [hA.len]; exact hlt))
      have hf := hA.free k
      have R := hA.set k (.int .i64 mk) rfl
      go_wp2
      go_roundw
      case rel => exact ⟨k + 1, _, by omega, by go_num, grown_trans hgr (grown_set _ _ _ _), R⟩
      case measure => simp [intOf]; omega
    · have hlt' : ¬ (k : Int) < (n : Int) := by omega
      go_wp2
      go_loopw [0, 5] (fun v i wq => ∃ (q : Nat) (b : Option Addr) (m c : Nat) (Y : List Value), q ≤ 20 ∧ m = n + q ∧ i = .int .i64 q ∧ v = .slice b m c ∧ w.grownBy wq (Value.slice a n cap).ownBlock ∧ AnsX 3 wq 0 b m c Y ∧ (∀ y, (Value.slice b m c).ownBlock = some y → (Value.slice a n cap).ownBlock = some y ∨ w.heap.size ≤ y)) (fun _ i _ => 20 - (intOf i).toNat)
      case atStart => exact ⟨0, a, n, cap, X, by omega, rfl, rfl, rfl, hgr, hA.low (Nat.zero_le _), fun y hy => .inl hy⟩
      case round =>
        obtain ⟨q, b, m, c, Y, hq, hmq, rfl, rfl, hgq, hY, hb⟩ := hrel
        by_cases hlq : q < 20
        · have hlq' : (q : Int) < 20 := by omega
          have hsz := hgq.size
          go_wp2_with (at_builtin; refine wpList_psY Tryd.elI wr (.int .i64 mk) rfl rfl _ _ rfl b m c 0 Y rfl hY (Nat.zero_le _) rfl (by omega) (by omega) ?_; intro gx cx w2 hA2 hg2 hx2)
          go_roundw
          case rel =>
            refine ⟨q + 1, some ⟨gx, 0, none⟩, m + 1, cx, _, by omega, by omega, by go_num, by rw [hmq], ?_, hA2, ?_⟩
            · cases hbo : (Value.slice b m c).ownBlock with
              | none => rw [hbo] at hg2; exact grown_trans hgq (grown_weak hg2 _)
              | some y => rw [hbo] at hg2; exact grown_new hgq hg2 (hb y hbo)
            · intro y hy
              have e : gx = y := Option.some.inj hy
              subst e
              rcases hx2 with h | h
              · exact hb gx h
              · exact .inr (by omega)
          case measure => simp [intOf]; omega
        · have hlq' : ¬ (q : Int) < 20 := by omega
          go_wp2
          go_end0
          exact ⟨rfl, hgq⟩
theorem run_stKey (w : World) (g o : Nat) (v0 v1 v2 v3 : Value) (h1 : ∀ v, v ∈ [v0, v1, v2, v3] → v.oneCell' = true) (hc : ∀ j, j < 4 → (w.cell? ⟨g, o + j, none⟩).isSome = true) (hf : ∀ j, j < 4 → w.frozen? ⟨g, o + j, none⟩ = false) :
    (Instr.storeAt 36 (.pointer (some ⟨g, o, none⟩)) (.agg #[v0, v1, v2, v3])).run Tryd.prog w = .ok () (w.setCells g o [v0, v1, v2, v3]) := by
  have hst := run_storeCells_cells (P := Tryd.prog) g o [v0, v1, v2, v3] 0 w (by simpa using hc) (by simpa using hf) h1
  simp only [Nat.add_zero] at hst
  have i4 := Tryd.info_ky4
  cases hq : Tryd.prog.info? 36 with
  | none => simp [hq] at i4
  | some i =>
    have hs : 4 = i.size := by simp [hq] at i4; omega
    simp [Instr.storeAt, Instr.sureAddr, storeVar, sizeOf, typeInfo, hq, Value.cells, ← hs, hst]
/-- a key is written over -/
def kw7 : Kw := ⟨-7, none, 0, 0, [], 0, 0⟩
theorem kw7_ok : I64 kw7.id ∧ I64 kw7.tp ∧ I64 kw7.sn := by unfold I64 kw7; exact ⟨⟨by decide, by decide⟩, ⟨by decide, by decide⟩, ⟨by decide, by decide⟩⟩
theorem setCells_own {g n cap : Nat} {ks : List Kw} {w : World} (h : w.ownsRow 0 36 4 (.slice (some ⟨g, 0, none⟩) n cap) n (flK ks)) (hl : ks.length = n) (i : Nat) (hi : i < n) (q : Kw) : (w.setCells g (i * 4) q.cells).ownsRow 0 36 4 (.slice (some ⟨g, 0, none⟩) n cap) n (flK (ks.set i q)) ∧ w.grownBy (w.setCells g (i * 4) q.cells) (some g) := by
  have hsp : ∀ (vs : List Value) (o : Nat) (w : World) (X : List Value), w.ownsRow 0 36 4 (.slice (some ⟨g, 0, none⟩) n cap) n X → o + vs.length ≤ n * 4 → (w.setCells g o vs).ownsRow 0 36 4 (.slice (some ⟨g, 0, none⟩) n cap) n (X.take o ++ vs ++ X.drop (o + vs.length)) ∧ w.grownBy (w.setCells g o vs) (some g) := by
    intro vs
    induction vs with
    | nil =>
      intro o w X h ho
      refine ⟨?_, World.grownBy.refl _ _⟩
      rw [List.append_nil, List.length_nil, Nat.add_zero, List.take_append_drop]
      exact h
    | cons v vs ih =>
      intro o w X h ho
      rw [List.length_cons] at ho
      have hX := h.1
      have h1 : (w.setCell ⟨g, o, none⟩ v).ownsRow 0 36 4 (.slice (some ⟨g, 0, none⟩) n cap) n (X.set o v) := by
        refine ⟨by rw [List.length_set]; exact h.1, ?_⟩
        rcases h.2 with ⟨h1, _⟩ | ⟨g', cap', cur, h1, h2, h3, h4, h5, h6, h7⟩
        · simp at h1
        · simp only [Value.slice.injEq, Option.some.injEq, Addr.mk.injEq] at h1
          obtain ⟨⟨rfl, _⟩, _, rfl⟩ := h1
          refine .inr ⟨g, cap, cur.setIfInBounds o v, rfl, h2, heap_setCell_same w g o _ _ _ h3, h4, h5, by simpa using h6, ?_⟩
          rw [← h7, Array.toList_setIfInBounds, List.take_set]
      obtain ⟨k1, k2⟩ := ih (o + 1) _ _ h1 (by omega)
      refine ⟨?_, grown_trans (grown_set w g o v) k2⟩
      have e : (X.set o v).take (o + 1) ++ vs ++ (X.set o v).drop (o + 1 + vs.length) = X.take o ++ (v :: vs) ++ X.drop (o + (v :: vs).length) := by
        rw [List.drop_set_of_lt (by omega), List.take_add_one, List.take_set_of_le (Nat.le_refl _), List.getElem?_set_self (by omega), List.length_cons, show o + 1 + vs.length = o + (vs.length + 1) by omega]
        simp
      rw [← e]
      exact k1
  obtain ⟨k1, k2⟩ := hsp q.cells (i * 4) w _ h (by show i * 4 + 4 ≤ _; omega)
  refine ⟨?_, k2⟩
  have e : flK (ks.set i q) = (flK ks).take (i * 4) ++ q.cells ++ (flK ks).drop (i * 4 + q.cells.length) := by
    rw [flK_take, show i * 4 + q.cells.length = (i + 1) * 4 by show i * 4 + 4 = _; omega, flK_drop, List.set_eq_take_append_cons_drop, if_pos (by omega), flK_app]
    show flK (ks.take i) ++ (q.cells ++ flK (ks.drop (i + 1))) = _
    rw [List.append_assoc]
  rw [e]
  exact k1
theorem OwK.row_ne {w : World} {lo g n c : Nat} {qs : List Kw} (h : OwK w lo (some ⟨g, 0, none⟩) n c qs) {k : Kw} (hk : AnsZ w lo k.a k.n k.c k.W) : k.v.ownBlock ≠ some g := by
  intro e
  rcases h.own.2 with ⟨h1, _⟩ | ⟨y, cap', cur, h1, _, hh, _⟩
  · simp at h1
  · simp only [Value.slice.injEq, Option.some.injEq, Addr.mk.injEq] at h1
    obtain ⟨⟨rfl, _⟩, _, rfl⟩ := h1
    exact hk.box hh (by decide) e
theorem OwK.setOver {w w1 w2 : World} {lo g n c k : Nat} {qs : List Kw} {kk : Kw} (h : OwK w lo (some ⟨g, 0, none⟩) n c qs) (hi : qs[k]? = some kk) (u1 : w.grownBy w1 kk.v.ownBlock) (ho : w2.ownsRow 0 36 4 (.slice (some ⟨g, 0, none⟩) n c) n (flK (qs.set k kw7))) (u2 : w1.grownBy w2 (some g)) : OwK w2 lo (some ⟨g, 0, none⟩) n c (qs.set k kw7) := by
  have hkl := (List.getElem?_eq_some_iff.1 hi).1
  have hkk : qs[k] = kk := (List.getElem?_eq_some_iff.1 hi).2
  have hpw := List.pairwise_iff_getElem.1 h.apart
  have hne : ∀ i (hil : i < qs.length), i ≠ k → ∀ y, qs[i].v.ownBlock = some y → kk.v.ownBlock ≠ some y := by
    intro i hil hik y hy e
    by_cases hlt : i < k
    · exact hpw i k hil hkl hlt y hy (by rw [hkk]; exact e)
    · exact hpw k i hkl hil (by omega) y (by rw [hkk]; exact e) hy
  refine ⟨ho, by rw [List.length_set]; exact h.len, h.new, fun q hq => ?_, fun q hq => ?_, List.pairwise_iff_getElem.2 (fun i j hil hjl hij y hy e => ?_)⟩
  · obtain ⟨i, hil, rfl⟩ := List.mem_iff_getElem.1 hq
    rw [List.length_set] at hil
    by_cases hik : i = k
    · subst hik
      rw [List.getElem_set_self]
      exact ansZ_nil _ _
    · rw [List.getElem_set_ne (fun e => hik e.symm)]
      have hA := h.each qs[i] (List.getElem_mem _)
      have hB := hA.kept u1 (by
        cases e : (Value.slice qs[i].a qs[i].n qs[i].c).ownBlock with
        | none => exact .inl rfl
        | some y => exact .inr (fun e2 => hne i hil hik y e e2.symm))
      exact hB.kept u2 (by
        cases e : (Value.slice qs[i].a qs[i].n qs[i].c).ownBlock with
        | none => exact .inl rfl
        | some y => exact .inr (fun e2 => h.row_ne hA (by show (Value.slice qs[i].a qs[i].n qs[i].c).ownBlock = _; rw [e, e2])))
  · rcases List.mem_or_eq_of_mem_set hq with hq | rfl
    · exact h.bd q hq
    · exact kw7_ok
  · rw [List.length_set] at hil hjl
    by_cases hik : i = k
    · subst hik
      rw [List.getElem_set_self] at hy
      simp [kw7, Kw.v, Value.ownBlock] at hy
    · by_cases hjk : j = k
      · subst hjk
        rw [List.getElem_set_self] at e
        simp [kw7, Kw.v, Value.ownBlock] at e
      · rw [List.getElem_set_ne (fun e => hik e.symm)] at hy
        rw [List.getElem_set_ne (fun e => hjk e.symm)] at e
        exact hpw i j hil hjl hij y hy e
/-- a key is stored into a row of them -/
theorem wpList_stKy (w : World) {ops : Array Oper} {rest : List Oper} {o : Oper} {a : Act} {Q : Exit → Act → World → Prop} (hg : o.guard = none) (p x : Operand) (hop : o.op = Op.store 36 p x)
    (g i n cap : Nat) (qs : List Kw) (q : Kw) (hp : a.eval p = .pointer (some ⟨g, i * 4, none⟩)) (hx : a.eval x = .agg #[.int .i64 q.id, .slice q.a q.n q.c, .int .i64 q.tp, .int .i64 q.sn]) (h : w.ownsRow 0 36 4 (.slice (some ⟨g, 0, none⟩) n cap) n (flK qs)) (hl : qs.length = n) (hi : i < n)
    (hK : ∀ w', w'.ownsRow 0 36 4 (.slice (some ⟨g, 0, none⟩) n cap) n (flK (qs.set i q)) → w.grownBy w' (some g) → wpList Tryd.prog ops Q rest (a.put o.dst undef) w') :
    wpList Tryd.prog ops Q (o :: rest) a w := by
  refine wpList_plain hg fun K hK' => ?_
  obtain ⟨k1, k2⟩ := setCells_own h hl i hi q
  have hst : (Instr.storeAt 36 (.pointer (some ⟨g, i * 4, none⟩)) (.agg #[.int .i64 q.id, .slice q.a q.n q.c, .int .i64 q.tp, .int .i64 q.sn])).run Tryd.prog w = .ok () (w.setCells g (i * 4) q.cells) := by
    rcases h.2 with ⟨h1, _⟩ | ⟨g', cap', cur, h1, _, h3, h4, _, h6, _⟩
    · simp at h1
    · simp only [Value.slice.injEq, Option.some.injEq, Addr.mk.injEq] at h1
      obtain ⟨⟨rfl, _⟩, _, rfl⟩ := h1
      refine run_stKey w g (i * 4) _ _ _ _ (by intro v hv; simp only [List.mem_cons, List.not_mem_nil, or_false] at hv; rcases hv with rfl | rfl | rfl | rfl <;> rfl) (fun j hj => ?_) (fun j hj => frozen_of_row w g _ _ _ h3)
      rw [cell_of_row _ _ _ _ _ _ h3, Array.getElem?_eq_getElem (by omega)]
      rfl
  unfold Oper.wp
  simp [execOp, hop, hp, hx, hst, Result.andThen]
  exact hK' _ _ (hK _ k1 k2)
set_option maxHeartbeats 32000000 in
theorem overRing_any (a : Option Addr) (n c lo : Nat) (ks : List Kw) (R : List Kd) (w : World) (h : OwG w lo a n c ks R) (hF : ∀ k, k ∈ R → k.W.length ≤ 17592186043904) (hn : n * 48 ≤ 140737488351232) :
    Calls Tryd.prog 32 #[.agg #[.slice a n c]] w fun e w' => e = .returned (.tuple #[]) ∧ Fz (Okb (.slice a n c) ks) w w' := by
  have hl := h.o.len
  have b0 := BxS.new w 24 #[.slice a n c]
  have g0 := World.grownBy_alloc w (.cells #[.slice a n c] 24) none
  generalize hw0 : w.alloc (.cells #[.slice a n c] 24) = w0 at b0 g0
  have hmm : maxLen ≤ 9223372036854775807 := by decide
  have hmx := h.o.max
  have F0 : Fz (Okb (.slice a n c) ks) w w0 := (Fz.refl _ w).step g0 (fun k e _ => by cases e)
  go_enter Tryd.func32, Tryd.ntmps32
  go_wp2
  go_loopw [2] (fun iv wr => ∃ (k : Nat) (qs : List Kw), iv = .int .i64 k ∧ k ≤ n ∧ OwK wr lo a n c qs ∧ (∀ i, k ≤ i → qs[i]? = ks[i]?) ∧ (∀ q, q ∈ qs → q ∈ ks ∨ q = kw7) ∧ BxS wr w.heap.size 24 #[.slice a n c] ∧ Fz (Okb (.slice a n c) ks) w wr) (fun iv _ => n - (intOf iv).toNat)
  case atStart => exact ⟨0, ks, by go_num, Nat.zero_le _, h.o.keep g0, fun _ _ => rfl, fun q hq => .inl hq, b0, F0⟩
  case round =>
    obtain ⟨k, qs, rfl, hk, hO, hsame, hin, hB, Fr⟩ := hrel
    have x0 : wr.cell? ⟨w.heap.size, 0, none⟩ = some (.slice a n c) := hB.cell 0 (by show 0 < 1; decide)
    have hlq := hO.len
    by_cases hlt : k < n
    · have hlt' : (k : Int) < (n : Int) := by omega
      obtain ⟨g, rfl⟩ := hO.someK (by omega)
      obtain ⟨kk, hi⟩ : ∃ kk, qs[k]? = some kk := ⟨_, List.getElem?_eq_getElem (by omega)⟩
      have hm : kk ∈ qs := List.mem_of_getElem? hi
      have hmk : kk ∈ ks := List.mem_of_getElem? ((hsame k (Nat.le_refl _)).symm.trans hi)
      obtain ⟨t0, t1, t2, t3⟩ := hO.rd.four hi
      rw [Nat.zero_add] at t0 t1 t2 t3
      have hW := hO.each kk hm
      have hwn : kk.n ≤ 17592186043904 := by
        have := hF kk.d (by rw [← h.d]; exact List.mem_map_of_mem hmk)
        rw [← hW.len]; exact this
      have kO := over2_any (-7) kk.a kk.n kk.c lo kk.W wr hW.x hwn
      have hwk : IntKind.i64.wrap ((k : Int) + 1) = (k : Int) + 1 := wrap_i64_in _ (by omega) (by omega)
      have hgo : Okb (.slice (some ⟨g, 0, none⟩) n c) ks g := .inl rfl
      have s0 : True := trivial
      go_wp2_with (first
        | (go_at_call 48; have _t := s0; clear s0; refine kO.mono ?_; rintro e w5 ⟨rfl, u5⟩; have hB5 := hB.keep u5 (fun e => hW.box hB (by decide) e.symm); have x5 : w5.cell? ⟨w.heap.size, 0, none⟩ = some (.slice (some ⟨g, 0, none⟩) n c) := hB5.cell 0 (by show 0 < 1; decide); clear x0 t0 t1 t2 t3; have s1 : True := trivial)
        | (have _t := s1; clear s1; refine wpList_stKy w5 rfl _ _ rfl g k n c qs kw7 rfl rfl (hO.own.kept u5 (.inr (fun e => hO.row_ne hW e.symm))) hlq hlt ?_; intro w6 ho6 u6))
      have hO6 := hO.setOver hi u5 ho6 u6
      have hB6 := hB5.keep u6 (fun e => by have e := Option.some.inj e; have := (h.o.hi hgo).1; omega)
      have F6 := (Fr.step u5 (fun y e _ => .inr ⟨kk, hmk, e⟩)).step u6 (fun y e _ => by have e := Option.some.inj e; subst e; exact hgo)
      go_roundw
      case rel =>
        refine ⟨k + 1, _, by go_num, by omega, hO6, fun i hik => ?_, fun q hq => ?_, hB6, F6⟩
        · rw [List.getElem?_set_ne (by omega)]
          exact hsame i (by omega)
        · rcases List.mem_or_eq_of_mem_set hq with hq | hq
          · exact hin q hq
          · exact .inr hq
      case measure => simp [intOf]; omega
    · have hlt' : ¬ (k : Int) < (n : Int) := by omega
      obtain rfl : k = n := by omega
      go_wp2_with (at_builtin; refine wpList_psK wr 0 ⟨-8, none, 0, 0, [], 0, 0⟩ rfl _ _ rfl a k c qs rfl (hO.wide (Nat.zero_le _)) (Nat.zero_le _) rfl (by omega) _ rfl (ansZ_nil _ _) (by unfold I64; exact ⟨⟨by decide, by decide⟩, ⟨by decide, by decide⟩, ⟨by decide, by decide⟩⟩) (fun q hq y hy e => by simp [Kw.v, Value.ownBlock] at e) ?_; intro gx cx w9 hO9 u9 hgx)
      go_end0
      exact ⟨rfl, Fr.step u9 (fun y e _ => .inl e)⟩
end Go.Proofs.YtaigcjhachkmmaaDoor
