import Derived.Test.YtnpkmjdlohdieaaUNa
namespace Go.Proofs.Ytnpkmjdlohdieaa
open Go.RowKit
set_option maxRecDepth 100000
set_option linter.unusedVariables false
set_option linter.unusedSimpArgs false
theorem cloneI_any (a : Option Addr) (n cap : Nat) (X : List Value) (w : World) (hp : RdX w a n cap X) (hn : n ≤ 10000000000000) :
    Calls Try.prog 45 #[.slice a n cap] w fun e w' => ∃ a' c', e = .returned (.slice a' n c') ∧ AnsX 3 w' w.heap.size a' n c' X ∧ w.grownBy w' none := by
  cases a with
  | none =>
    have hc0 : cap = 0 := hp.nil rfl
    have hn0 : n = 0 := by have := hp.le; omega
    subst hc0 hn0
    have e : X = [] := List.eq_nil_of_length_eq_zero hp.len
    subst e
    have heq := fun w => Lib.run_eql_slice_nil (P := Try.prog) w 26 3 none 0 0 0 0 Try.underlying26
    go_enter Try.func45, Try.ntmps45
    go_wp2
    go_ret
    exact ⟨none, 0, rfl, AnsX.nil0 _ _ _, World.grownBy.refl _ _⟩
  | some ad =>
    have gA := World.grownBy_alloc w (.cells #[] 3) none
    have hA := heap_alloc_new w (.cells #[] 3)
    have hown : AnsX 3 (w.alloc (.cells #[] 3)) w.heap.size (some ⟨w.heap.size, 0, none⟩) 0 0 [] := ⟨⟨rfl, .inr ⟨w.heap.size, 0, #[], rfl, Nat.zero_le _, hA, Nat.le_refl _, Nat.zero_le _, rfl, rfl⟩⟩, (fun x h => by cases h), fun g h => by have e : w.heap.size = g := Option.some.inj h; omega⟩
    have hpA := hp.keep gA
    have heq := fun w => Lib.run_eql_slice_nil (P := Try.prog) w 26 3 (some ad) n cap 0 0 Try.underlying26
    go_enter Try.func45, Try.ntmps45
    go_wp2_with (at_builtin; refine wpList_apX Try.elI rfl _ _ rfl _ 0 0 w.heap.size [] rfl hown (by simp) _ n cap X rfl hpA (by omega) (by omega) ?_; intro a' c' w2 hA2 hg2)
    go_ret
    rw [Nat.zero_add] at *
    exact ⟨a', c', rfl, hA2, grown_far gA hg2 (fun x hx => by have e : w.heap.size = x := Option.some.inj hx; omega)⟩
theorem cloneH_any (a : Option Addr) (n cap : Nat) (X : List Value) (w : World) (hp : RdX w a n cap X) (hn : n ≤ 10000000000000) :
    Calls Try.prog 46 #[.slice a n cap] w fun e w' => ∃ a' c', e = .returned (.slice a' n c') ∧ AnsX 4 w' w.heap.size a' n c' X ∧ w.grownBy w' none := by
  cases a with
  | none =>
    have hc0 : cap = 0 := hp.nil rfl
    have hn0 : n = 0 := by have := hp.le; omega
    subst hc0 hn0
    have e : X = [] := List.eq_nil_of_length_eq_zero hp.len
    subst e
    have heq := fun w => Lib.run_eql_slice_nil (P := Try.prog) w 27 4 none 0 0 0 0 Try.underlying27
    go_enter Try.func46, Try.ntmps46
    go_wp2
    go_ret
    exact ⟨none, 0, rfl, AnsX.nil0 _ _ _, World.grownBy.refl _ _⟩
  | some ad =>
    have gA := World.grownBy_alloc w (.cells #[] 4) none
    have hA := heap_alloc_new w (.cells #[] 4)
    have hown : AnsX 4 (w.alloc (.cells #[] 4)) w.heap.size (some ⟨w.heap.size, 0, none⟩) 0 0 [] := ⟨⟨rfl, .inr ⟨w.heap.size, 0, #[], rfl, Nat.zero_le _, hA, Nat.le_refl _, Nat.zero_le _, rfl, rfl⟩⟩, (fun x h => by cases h), fun g h => by have e : w.heap.size = g := Option.some.inj h; omega⟩
    have hpA := hp.keep gA
    have heq := fun w => Lib.run_eql_slice_nil (P := Try.prog) w 27 4 (some ad) n cap 0 0 Try.underlying27
    go_enter Try.func46, Try.ntmps46
    go_wp2_with (at_builtin; refine wpList_apX Try.elH rfl _ _ rfl _ 0 0 w.heap.size [] rfl hown (by simp) _ n cap X rfl hpA (by omega) (by omega) ?_; intro a' c' w2 hA2 hg2)
    go_ret
    rw [Nat.zero_add] at *
    exact ⟨a', c', rfl, hA2, grown_far gA hg2 (fun x hx => by have e : w.heap.size = x := Option.some.inj hx; omega)⟩
theorem stc_slH (g i : Nat) (p : Option Addr) (l c : Nat) (w : World) (hc : ∃ u, w.cell? ⟨g, i, none⟩ = some u) (hf : w.frozen? ⟨g, i, none⟩ = false) : (Instr.storeAt 27 (.pointer (some ⟨g, i, none⟩)) (.slice p l c)).run Try.prog w = .ok () (w.setCell ⟨g, i, none⟩ (.slice p l c)) := by
  obtain ⟨u, hc⟩ := hc
  simp [go_sem, hc, hf]
set_option maxHeartbeats 16000000 in
/-- a vigil in memory of its own -/
theorem atWork_any (G : Gd) (A : Va) (D : Vi) (w : World) (hV : RdVg w A D) (hb : D.bd.length ≤ 1000) (hp : D.tp.length ≤ 1000) (ht : D.tr.length ≤ 1000) :
    Calls Try.prog 32 #[.agg #[.slice G.ma G.n G.mc, .int .i64 G.si, .int .i64 G.mo, .int .i64 G.wi, .string G.sa], .agg (vgA D A)] w fun e w' => ∃ g A', e = .returned (.pointer (some ⟨g, 0, none⟩)) ∧ WV w w' g G A' D none 0 0 [] := by
  have lb := hV.b.lenI
  have lp := hV.p.lenH
  have lt := hV.t.lenI
  unfold vgA
  have b0 := BxS.new w 24 #[.slice G.ma G.n G.mc, .int .i64 G.si, .int .i64 G.mo, .int .i64 G.wi, .string G.sa]
  have g0 := World.grownBy_alloc w (.cells #[.slice G.ma G.n G.mc, .int .i64 G.si, .int .i64 G.mo, .int .i64 G.wi, .string G.sa] 24) none
  generalize hw0 : w.alloc (.cells #[.slice G.ma G.n G.mc, .int .i64 G.si, .int .i64 G.mo, .int .i64 G.wi, .string G.sa] 24) = w0 at b0 g0
  have hz0 : w0.heap.size = w.heap.size + 1 := by rw [← hw0]; simp
  have b1 := BxS.new w0 29 #[.bool D.sf, .int .i64 D.wy, .slice A.ab A.nb A.cb, .slice A.ap A.np A.cp, .int .i64 D.qu, .slice A.at' A.nt A.ct]
  have g1 := World.grownBy_alloc w0 (.cells #[.bool D.sf, .int .i64 D.wy, .slice A.ab A.nb A.cb, .slice A.ap A.np A.cp, .int .i64 D.qu, .slice A.at' A.nt A.ct] 29) none
  generalize hw1 : w0.alloc (.cells #[.bool D.sf, .int .i64 D.wy, .slice A.ab A.nb A.cb, .slice A.ap A.np A.cp, .int .i64 D.qu, .slice A.at' A.nt A.ct] 29) = w1 at b1 g1
  rw [hz0] at b1
  have b01 := b0.keep g1 (by simp)
  have G1 := grown_trans g0 g1
  have hz1 : w1.heap.size = w.heap.size + 2 := by rw [← hw1]; simp [hz0]
  have hV1 := hV.keep G1
  have kb := fun wz (hz : w1.grownBy wz none) => cloneI_any A.ab A.nb A.cb _ wz (hV1.b.keep hz) (by omega)
  have kp := fun wz (hz : w1.grownBy wz none) => cloneH_any A.ap A.np A.cp _ wz (hV1.p.keep hz) (by omega)
  have kt := fun wz (hz : w1.grownBy wz none) => cloneI_any A.at' A.nt A.ct _ wz (hV1.t.keep hz) (by omega)
  clear lb lp lt hV
  go_enter Try.func32, Try.ntmps32
  go_wp2
  have SS := grown_drew w1 none
  refine wp_regionL (fun wz => w1.grownBy wz none) [10, 11, 12, 13, 14] #[false, false, false, false, false, false, false, false, false, false, false, false, false, false, false] rfl (by kernel_rfl) ?_
  refine wpAnyZ_take [1, 2, 10, 11, 12, 13, 14] 0 (.pointer (some ⟨w.heap.size + 1, 2, none⟩)) rfl (by kernel_rfl) (fun _ _ _ h => h) SS rfl (by intro wz hz; obtain ⟨z0, z1, z2, z3, z4, z5⟩ := (b1.keep hz (by simp)).cell6; go_simp) ?_
  try simp only [List.getElem_toArray, List.getElem_cons_succ, List.getElem_cons_zero, Act.put, List.setIfInBounds_toArray, List.set_cons_zero, List.set_cons_succ]
  refine wpAnyZ_take [2, 10, 11, 12, 13, 14] 1 (.slice A.ab A.nb A.cb) rfl (by kernel_rfl) (fun _ _ _ h => h) SS rfl (by intro wz hz; obtain ⟨z0, z1, z2, z3, z4, z5⟩ := (b1.keep hz (by simp)).cell6; go_simp) ?_
  try simp only [List.getElem_toArray, List.getElem_cons_succ, List.getElem_cons_zero, Act.put, List.setIfInBounds_toArray, List.set_cons_zero, List.set_cons_succ]
  refine wpAnyZ_take [4, 5, 10, 11, 12, 13, 14] 3 (.pointer (some ⟨w.heap.size + 1, 3, none⟩)) rfl (by kernel_rfl) (fun _ _ _ h => h) SS rfl (by intro wz hz; obtain ⟨z0, z1, z2, z3, z4, z5⟩ := (b1.keep hz (by simp)).cell6; go_simp) ?_
  try simp only [List.getElem_toArray, List.getElem_cons_succ, List.getElem_cons_zero, Act.put, List.setIfInBounds_toArray, List.set_cons_zero, List.set_cons_succ]
  refine wpAnyZ_take [5, 10, 11, 12, 13, 14] 4 (.slice A.ap A.np A.cp) rfl (by kernel_rfl) (fun _ _ _ h => h) SS rfl (by intro wz hz; obtain ⟨z0, z1, z2, z3, z4, z5⟩ := (b1.keep hz (by simp)).cell6; go_simp) ?_
  try simp only [List.getElem_toArray, List.getElem_cons_succ, List.getElem_cons_zero, Act.put, List.setIfInBounds_toArray, List.set_cons_zero, List.set_cons_succ]
  refine wpAnyZ_take [7, 8, 10, 11, 12, 13, 14] 6 (.pointer (some ⟨w.heap.size + 1, 5, none⟩)) rfl (by kernel_rfl) (fun _ _ _ h => h) SS rfl (by intro wz hz; obtain ⟨z0, z1, z2, z3, z4, z5⟩ := (b1.keep hz (by simp)).cell6; go_simp) ?_
  try simp only [List.getElem_toArray, List.getElem_cons_succ, List.getElem_cons_zero, Act.put, List.setIfInBounds_toArray, List.set_cons_zero, List.set_cons_succ]
  refine wpAnyZ_take [8, 10, 11, 12, 13, 14] 7 (.slice A.at' A.nt A.ct) rfl (by kernel_rfl) (fun _ _ _ h => h) SS rfl (by intro wz hz; obtain ⟨z0, z1, z2, z3, z4, z5⟩ := (b1.keep hz (by simp)).cell6; go_simp) ?_
  try simp only [List.getElem_toArray, List.getElem_cons_succ, List.getElem_cons_zero, Act.put, List.setIfInBounds_toArray, List.set_cons_zero, List.set_cons_succ]
  refine wpAnyZ_oneB 2 rfl (by kernel_rfl) (fun K hK => ?_)
  go_simp
  go_at_call 45
  refine (kb _ SS).mono ?_
  rintro e wB ⟨aB, cB, rfl, AB, gB⟩
  dsimp only
  have SN := grown_trans SS gB
  have SB := SS
  clear SS
  have SS := SN
  clear SN
  refine hK _ _ (fun _ => SS) ?_
  try simp only [List.getElem_toArray, List.getElem_cons_succ, List.getElem_cons_zero, Act.put, List.setIfInBounds_toArray, List.set_cons_zero, List.set_cons_succ]
  refine wpAnyZ_take [10, 11, 12, 13, 14] 9 (.pointer (some ⟨w.heap.size + 1, 2, none⟩)) rfl (by kernel_rfl) (fun _ _ _ h => h) SS rfl (by intro wz hz; obtain ⟨z0, z1, z2, z3, z4, z5⟩ := (b1.keep hz (by simp)).cell6; go_simp) ?_
  try simp only [List.getElem_toArray, List.getElem_cons_succ, List.getElem_cons_zero, Act.put, List.setIfInBounds_toArray, List.set_cons_zero, List.set_cons_succ]
  refine wpAnyZ_oneB 5 rfl (by kernel_rfl) (fun K hK => ?_)
  go_simp
  go_at_call 46
  refine (kp _ SS).mono ?_
  rintro e wP ⟨aP, cP, rfl, AP, gP⟩
  dsimp only
  have SN := grown_trans SS gP
  have SP := SS
  clear SS
  have SS := SN
  clear SN
  refine hK _ _ (fun _ => SS) ?_
  try simp only [List.getElem_toArray, List.getElem_cons_succ, List.getElem_cons_zero, Act.put, List.setIfInBounds_toArray, List.set_cons_zero, List.set_cons_succ]
  refine wpAnyZ_oneB 8 rfl (by kernel_rfl) (fun K hK => ?_)
  go_simp
  go_at_call 45
  refine (kt _ SS).mono ?_
  rintro e wT ⟨aT, cT, rfl, AT, gT⟩
  dsimp only
  have SN := grown_trans SS gT
  have ST := SS
  clear SS
  have SS := SN
  clear SN
  refine hK _ _ (fun _ => SS) ?_
  try simp only [List.getElem_toArray, List.getElem_cons_succ, List.getElem_cons_zero, Act.put, List.setIfInBounds_toArray, List.set_cons_zero, List.set_cons_succ]
  have bT := b1.keep SS (by simp)
  obtain ⟨c0, c1, c2, c3, c4, c5⟩ := bT.cell6
  have f2 := bT.free 2
  have f3 := bT.free 3
  have f5 := bT.free 5
  refine wpAnyZ_oneB 10 rfl (by kernel_rfl) (fun K hK => ?_)
  refine step_skip (w' := wT.setCell ⟨w.heap.size + 1, 2, none⟩ (.slice aB A.nb cB)) rfl (by go_simp) ?_
  refine hK _ _ (fun h => absurd (by decide) h) ?_
  try simp only [List.getElem_toArray, List.getElem_cons_succ, List.getElem_cons_zero, Act.put, List.setIfInBounds_toArray, List.set_cons_zero, List.set_cons_succ]
  have u1 := grown_set wT (w.heap.size + 1) 2 (.slice aB A.nb cB)
  have b2 : BxS (wT.setCell ⟨w.heap.size + 1, 2, none⟩ (.slice aB A.nb cB)) (w.heap.size + 1) 29 #[.bool D.sf, .int .i64 D.wy, .slice aB A.nb cB, .slice A.ap A.np A.cp, .int .i64 D.qu, .slice A.at' A.nt A.ct] := bT.set 2 (.slice aB A.nb cB)
  generalize wT.setCell ⟨w.heap.size + 1, 2, none⟩ (.slice aB A.nb cB) = w5 at *
  clear c0 c1 c2 c3 c4 c5 f2 f3 f5
  obtain ⟨c0, c1, c2, c3, c4, c5⟩ := b2.cell6
  have f3 := b2.free 3
  refine wpAnyZ_takeF 11 (.pointer (some ⟨w.heap.size + 1, 3, none⟩)) rfl (by kernel_rfl) (fun _ _ _ h => h) rfl (by intro wz; go_simp) ?_
  try simp only [List.getElem_toArray, List.getElem_cons_succ, List.getElem_cons_zero, Act.put, List.setIfInBounds_toArray, List.set_cons_zero, List.set_cons_succ]
  refine wpAnyZ_oneB 12 rfl (by kernel_rfl) (fun K hK => ?_)
  refine step_skip (w' := w5.setCell ⟨w.heap.size + 1, 3, none⟩ (.slice aP A.np cP)) rfl (by go_simp) ?_
  refine hK _ _ (fun h => absurd (by decide) h) ?_
  try simp only [List.getElem_toArray, List.getElem_cons_succ, List.getElem_cons_zero, Act.put, List.setIfInBounds_toArray, List.set_cons_zero, List.set_cons_succ]
  have u2 := grown_set w5 (w.heap.size + 1) 3 (.slice aP A.np cP)
  have b3 : BxS (w5.setCell ⟨w.heap.size + 1, 3, none⟩ (.slice aP A.np cP)) (w.heap.size + 1) 29 #[.bool D.sf, .int .i64 D.wy, .slice aB A.nb cB, .slice aP A.np cP, .int .i64 D.qu, .slice A.at' A.nt A.ct] := b2.set 3 (.slice aP A.np cP)
  generalize w5.setCell ⟨w.heap.size + 1, 3, none⟩ (.slice aP A.np cP) = w6 at *
  clear c0 c1 c2 c3 c4 c5 f3
  obtain ⟨c0, c1, c2, c3, c4, c5⟩ := b3.cell6
  have f5 := b3.free 5
  refine wpAnyZ_takeF 13 (.pointer (some ⟨w.heap.size + 1, 5, none⟩)) rfl (by kernel_rfl) (fun _ _ _ h => h) rfl (by intro wz; go_simp) ?_
  try simp only [List.getElem_toArray, List.getElem_cons_succ, List.getElem_cons_zero, Act.put, List.setIfInBounds_toArray, List.set_cons_zero, List.set_cons_succ]
  refine wpAnyZ_oneB 14 rfl (by kernel_rfl) (fun K hK => ?_)
  refine step_skip (w' := w6.setCell ⟨w.heap.size + 1, 5, none⟩ (.slice aT A.nt cT)) rfl (by go_simp) ?_
  refine hK _ _ (fun h => absurd (by decide) h) ?_
  try simp only [List.getElem_toArray, List.getElem_cons_succ, List.getElem_cons_zero, Act.put, List.setIfInBounds_toArray, List.set_cons_zero, List.set_cons_succ]
  have u3 := grown_set w6 (w.heap.size + 1) 5 (.slice aT A.nt cT)
  have b4 : BxS (w6.setCell ⟨w.heap.size + 1, 5, none⟩ (.slice aT A.nt cT)) (w.heap.size + 1) 29 #[.bool D.sf, .int .i64 D.wy, .slice aB A.nb cB, .slice aP A.np cP, .int .i64 D.qu, .slice aT A.nt cT] := b3.set 5 (.slice aT A.nt cT)
  generalize w6.setCell ⟨w.heap.size + 1, 5, none⟩ (.slice aT A.nt cT) = w7 at *
  clear c0 c1 c2 c3 c4 c5 f5
  refine wpAnyZ_doneB (by kernel_rfl) ?_ _
  have U := grown_trans (grown_trans u1 u2) u3
  have ng : some w.heap.size ≠ some (w.heap.size + 1) := fun e => by have := Option.some.inj e; omega
  have b01' := (b01.keep SS (by simp)).keep U ng
  obtain ⟨c0, c1, c2, c3, c4, c5⟩ := b4.cell6
  obtain ⟨d0, d1, d2, d3, d4⟩ := b01'.cell5
  have lB := AB.lt
  have lP := AP.lt
  have szB : w1.heap.size ≤ wB.heap.size := (grown_trans SB gB).size
  have szP : wB.heap.size ≤ wP.heap.size := gP.size
  have lo1 : w.heap.size + 2 ≤ w1.heap.size := by omega
  have nv : ∀ x, w.heap.size + 2 ≤ x → some x ≠ some (w.heap.size + 1) := fun x hx e => by have := Option.some.inj e; omega
  have vB : AnsX 3 w7 w.heap.size aB A.nb cB (zys D.bd) := (((AB.keep gP).keep gT).kept U (ne_of_some (fun x e e2 => by have := AB.new x e; have := SB.size; exact nv x (by omega) e2.symm))).low (by have := SB.size; omega)
  have vP : AnsX 4 w7 w.heap.size aP A.np cP (hls D.tp) := ((AP.keep gT).kept U (ne_of_some (fun x e e2 => by have := AP.new x e; exact nv x (by omega) e2.symm))).low (by omega)
  have vT : AnsX 3 w7 w.heap.size aT A.nt cT (zys D.tr) := (AT.kept U (ne_of_some (fun x e e2 => by have := AT.new x e; exact nv x (by omega) e2.symm))).low (by omega)
  have vne : ∀ x, (Value.slice aB A.nb cB).ownBlock = some x → (Value.slice aT A.nt cT).ownBlock ≠ some x := fun x e e2 => by have := AB.lt x e; have := AT.new x e2; omega
  have GG : w.grownBy w7 none := grown_far (grown_trans G1 SS) U (fun q e => by have e : w.heap.size + 1 = q := Option.some.inj e; omega)
  clear kb kp kt AB AP AT lB lP
  have bN := BxS.new w7 69 #[.bool D.sf, .int .i64 D.wy, .slice aB A.nb cB, .slice aP A.np cP, .int .i64 D.qu, .slice aT A.nt cT, .slice G.ma G.n G.mc, .int .i64 G.si, .int .i64 G.mo, .int .i64 G.wi, .string G.sa, .slice none 0 0]
  have gN := World.grownBy_alloc w7 (.cells #[.bool D.sf, .int .i64 D.wy, .slice aB A.nb cB, .slice aP A.np cP, .int .i64 D.qu, .slice aT A.nt cT, .slice G.ma G.n G.mc, .int .i64 G.si, .int .i64 G.mo, .int .i64 G.wi, .string G.sa, .slice none 0 0] 69) none
  go_wp2
  go_ret
  refine ⟨w7.heap.size, ⟨aB, A.nb, cB, aP, A.np, cP, aT, A.nt, cT⟩, rfl, bN, GG.size, ⟨vB.keep gN, vP.keep gN, vT.keep gN, vne⟩, AnsX.nil0 _ _ _, (fun x e => by cases e), (fun x e => by cases e), ?_⟩
  exact ((Fz.refl _ w).step GG (fun k e _ => by cases e)).step gN (fun k e _ => by cases e)
end Go.Proofs.Ytnpkmjdlohdieaa
