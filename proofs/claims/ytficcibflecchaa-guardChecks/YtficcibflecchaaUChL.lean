import Derived.Test.YtficcibflecchaaUBe
namespace Go.Proofs.Ytficcibflecchaa
open Go.RowKit
set_option maxRecDepth 100000
set_option linter.unusedVariables false
set_option linter.unusedSimpArgs false
theorem below_of_grown {w w' : World} (h : w.grownBy w' none) : Below w.heap.size w w' := (Below.refl _ _).grown h (Nat.le_refl _) (fun k hk => by cases hk)
set_option maxHeartbeats 16000000 in
theorem checks_walk (ma : Option Addr) (n mc : Nat) (si mo wi : Int) (sa : ByteArray) (F : Nat → Mo) (w : World) (hM : RdM w ma n mc F) (hb : n ≤ 2600000000000) : Calls Try.prog 3 #[.agg #[.slice ma n mc, .int .i64 si, .int .i64 mo, .int .i64 wi, .string sa]] w fun e w' => e = .returned (.bool true) ∧ Below w.heap.size w w' := by
  have b0 := BxS.new w 24 #[.slice ma n mc, .int .i64 si, .int .i64 mo, .int .i64 wi, .string sa]
  have g0 := World.grownBy_alloc w (.cells #[.slice ma n mc, .int .i64 si, .int .i64 mo, .int .i64 wi, .string sa] 24) none
  generalize hw0 : w.alloc (.cells #[.slice ma n mc, .int .i64 si, .int .i64 mo, .int .i64 wi, .string sa] 24) = w0 at b0 g0
  have hz0 : w0.heap.size = w.heap.size + 1 := by rw [← hw0]; simp
  obtain ⟨c0, c1, c2, c3, c4⟩ := b0.cell5
  have hM0 := hM.keep g0
  have kO := guardOwn_any ma n mc si mo wi sa F w0 hM0 hb
  have kV := fun wz hz => vigilant_any ma n mc si mo wi sa F wz hz
  have kB := fun q c wz hz => begin_any q n c si mo wi sa F wz hz
  have kC := fun q c wz hz => check_any q n c si mo wi sa F wz hz
  have kF := fun wz hz => rfault_any ma n mc si mo wi sa F wz hz
  have hnE := gfP_n (F := F) (n := n) (si := si) (mo := mo) (wi := wi) (sa := sa)
  have hDn : (bgD (gfP F n si mo wi sa).1 n).bd.length ≤ 1000 ∧ (bgD (gfP F n si mo wi sa).1 n).tr.length ≤ 1000 := by
    unfold bgD
    split
    · rename_i h
      have := hnE h
      simp
      omega
    · simp
  clear hnE
  generalize gfP F n si mo wi sa = p at *
  obtain ⟨E, At⟩ := p
  unfold ftV at kC kF
  dsimp only at kV kB kC kF hDn
  generalize bgD E n = D at *
  have kS := fun A B wz (h : RdVg wz A D) (k : RdVg wz B D) => sameVigil_any A B D wz h k
  have kW := fun (A : Va) lo wz (h : OwVg wz lo A D) h1 h2 => overVigil_any A D lo wz h h1 h2
  unfold vgA at kV kB kS kW
  have hS : (Op.equalIn 10000 34 (.agg #[.int .i64 (E : Int), .int .i64 (At : Int)]) (.agg #[.int .i64 (E : Int), .int .i64 (At : Int)])).run Try.prog = fun wz => .ok true wz := by
    funext wz
    go_simp
  have t1 : True := trivial
  go_enter Try.func3, Try.ntmps3
  go_wp2_with (first
    | (go_at_call 6; refine kO.mono ?_; rintro e w1 ⟨q, c, rfl, hQ, g1⟩; have y1 := World.grownBy_alloc w1 (.cells #[.slice q n c, .int .i64 si, .int .i64 mo, .int .i64 wi, .string sa] 24) none; have p3 := BxS.new w1 24 #[.slice q n c, .int .i64 si, .int .i64 mo, .int .i64 wi, .string sa]; have Y1 := grown_trans g1 y1; have p1 := b0.keep Y1 (by simp); have hM1 := hM0.keep Y1; have hQ1 := hQ.keep y1; clear c0 c1 c2 c3 c4; obtain ⟨c0, c1, c2, c3, c4⟩ := p1.cell5; have t2 : True := trivial)
    | (go_at_call 7; refine (kV _ hM1).mono ?_; rintro e w2 ⟨A4, rfl, hO4, g2⟩; have y2 := World.grownBy_alloc w2 (.cells #[.bool D.sf, .int .i64 D.wy, .slice A4.ab A4.nb A4.cb, .slice A4.ap A4.np A4.cp, .int .i64 D.qu, .slice A4.at' A4.nt A4.ct] 29) none; have q4 := BxS.new w2 29 #[.bool D.sf, .int .i64 D.wy, .slice A4.ab A4.nb A4.cb, .slice A4.ap A4.np A4.cp, .int .i64 D.qu, .slice A4.at' A4.nt A4.ct]; have Y2 := grown_trans g2 y2; have q1 := p1.keep Y2 (by simp); have q3 := p3.keep Y2 (by simp); have hM2 := hM1.keep Y2; have hQ2 := hQ1.keep Y2; have hO42 := hO4.keep y2; clear c0 c1 c2 c3 c4; obtain ⟨c0, c1, c2, c3, c4⟩ := q3.cell5; have t3 : True := trivial)
    | (go_at_call 8; have _t := t3; clear t3; refine (kB q c _ hQ2).mono ?_; rintro e w3 ⟨A6, rfl, hO6, g3⟩; have y3 := World.grownBy_alloc w3 (.cells #[.bool D.sf, .int .i64 D.wy, .slice A6.ab A6.nb A6.cb, .slice A6.ap A6.np A6.cp, .int .i64 D.qu, .slice A6.at' A6.nt A6.ct] 29) none; have r6 := BxS.new w3 29 #[.bool D.sf, .int .i64 D.wy, .slice A6.ab A6.nb A6.cb, .slice A6.ap A6.np A6.cp, .int .i64 D.qu, .slice A6.at' A6.nt A6.ct]; have Y3 := grown_trans g3 y3; have r1 := q1.keep Y3 (by simp); have r3 := q3.keep Y3 (by simp); have r4 := q4.keep Y3 (by simp); have hM3 := hM2.keep Y3; have hQ3 := hQ2.keep Y3; have hO43 := hO42.keep Y3; have hO63 := hO6.keep y3; clear c0 c1 c2 c3 c4; obtain ⟨c0, c1, c2, c3, c4⟩ := r3.cell5; have t4 : True := trivial)
    | (go_at_call 8; have _t := t4; clear t4; refine (kB q c _ hQ3).mono ?_; rintro e w4 ⟨A8, rfl, hO8, g4⟩; have y4 := World.grownBy_alloc w4 (.cells #[.bool D.sf, .int .i64 D.wy, .slice A8.ab A8.nb A8.cb, .slice A8.ap A8.np A8.cp, .int .i64 D.qu, .slice A8.at' A8.nt A8.ct] 29) none; have s8 := BxS.new w4 29 #[.bool D.sf, .int .i64 D.wy, .slice A8.ab A8.nb A8.cb, .slice A8.ap A8.np A8.cp, .int .i64 D.qu, .slice A8.at' A8.nt A8.ct]; have Y4 := grown_trans g4 y4; have s1 := r1.keep Y4 (by simp); have s3 := r3.keep Y4 (by simp); have s4 := r4.keep Y4 (by simp); have s6 := r6.keep Y4 (by simp); have hM4 := hM3.keep Y4; have hQ4 := hQ3.keep Y4; have hO44 := hO43.keep Y4; have hO64 := hO63.keep Y4; have hO84 := hO8.keep y4; clear c0 c1 c2 c3 c4))
  have e1 : w0.heap.size ≤ w1.heap.size := g1.size
  have e2 : w1.heap.size + 1 ≤ w2.heap.size := by have := g2.size; simpa using this
  have e3 : w2.heap.size + 1 ≤ w3.heap.size := by have := g3.size; simpa using this
  have e4 : w3.heap.size + 1 ≤ w4.heap.size := by have := g4.size; simpa using this
  have u4 : ∀ i, Vbl A4 i → i < w2.heap.size := hO4.hi
  have u6 : ∀ i, Vbl A6 i → w2.heap.size + 1 ≤ i ∧ i < w3.heap.size := fun i hi => ⟨by have := hO6.lo i hi; simpa using this, hO6.hi i hi⟩
  have u8 : ∀ i, Vbl A8 i → w3.heap.size + 1 ≤ i := fun i hi => by have := hO8.lo i hi; simpa using this
  have ll6 : A6.nb ≤ 1000 ∧ A6.nt ≤ 1000 := by
    have h1 : A6.nb = D.bd.length := by rw [← hO6.b.len, zys_length]
    have h2 : A6.nt = D.tr.length := by rw [← hO6.t.len, zys_length]
    omega
  have GT := grown_trans (grown_trans (grown_trans (grown_trans g0 Y1) Y2) Y3) Y4
  generalize w4.alloc (.cells #[.bool D.sf, .int .i64 D.wy, .slice A8.ab A8.nb A8.cb, .slice A8.ap A8.np A8.cp, .int .i64 D.qu, .slice A8.at' A8.nt A8.ct] 29) = wB at *
  have i5 := Try.info_gd
  have i6 := Try.info_vg
  have SS := grown_drew wB none
  refine wp_regionL (fun wz => wB.grownBy wz none) [] #[false, false, false, false, false, false, false, false, false, false, false, false, false, false, false, false, false, false, false, false, false, false, false, false, false, false, false] rfl (by kernel_rfl) ?_
  refine wpAnyZ_take [] 0 (.agg #[.slice q n c, .int .i64 si, .int .i64 mo, .int .i64 wi, .string sa]) rfl (by kernel_rfl) (fun _ _ _ h => h) SS rfl (by intro wz hz; have cz := s3.keep hz (by simp); obtain ⟨z0, z1, z2, z3, z4⟩ := BxS.cell5 cz; go_simp) ?_
  try simp only [List.getElem_toArray, List.getElem_cons_succ, List.getElem_cons_zero, Act.put, List.setIfInBounds_toArray, List.set_cons_zero, List.set_cons_succ]
  refine wpAnyZ_take [] 2 (.agg #[.slice ma n mc, .int .i64 si, .int .i64 mo, .int .i64 wi, .string sa]) rfl (by kernel_rfl) (fun _ _ _ h => h) SS rfl (by intro wz hz; have cz := s1.keep hz (by simp); obtain ⟨z0, z1, z2, z3, z4⟩ := BxS.cell5 cz; go_simp) ?_
  try simp only [List.getElem_toArray, List.getElem_cons_succ, List.getElem_cons_zero, Act.put, List.setIfInBounds_toArray, List.set_cons_zero, List.set_cons_succ]
  refine wpAnyZ_oneB 1 rfl (by kernel_rfl) (fun K hK => ?_)
  go_simp
  go_at_call 9
  refine (kC q c _ (hQ4.keep SS)).mono ?_
  rintro e wC ⟨rfl, gwC⟩
  dsimp only
  have SN := grown_trans SS gwC
  clear SS
  have SS := SN
  clear SN
  refine hK _ _ (fun _ => SS) ?_
  try simp only [List.getElem_toArray, List.getElem_cons_succ, List.getElem_cons_zero, Act.put, List.setIfInBounds_toArray, List.set_cons_zero, List.set_cons_succ]
  refine wpAnyZ_oneB 3 rfl (by kernel_rfl) (fun K hK => ?_)
  go_simp
  go_at_call 10
  refine (kF _ (hM4.keep SS)).mono ?_
  rintro e wF ⟨rfl, gwF⟩
  dsimp only
  have SN := grown_trans SS gwF
  clear SS
  have SS := SN
  clear SN
  refine hK _ _ (fun _ => SS) ?_
  try simp only [List.getElem_toArray, List.getElem_cons_succ, List.getElem_cons_zero, Act.put, List.setIfInBounds_toArray, List.set_cons_zero, List.set_cons_succ]
  refine wpAnyZ_take [] 4 (.bool false) rfl (by kernel_rfl) (fun _ _ _ h => h) SS rfl (by intro wz hz; have hq := congrFun hS wz; go_simp) ?_
  try simp only [List.getElem_toArray, List.getElem_cons_succ, List.getElem_cons_zero, Act.put, List.setIfInBounds_toArray, List.set_cons_zero, List.set_cons_succ]
  refine wpAnyZ_take [] 5 (.bool false) rfl (by kernel_rfl) (fun _ _ _ h => h) SS rfl (by intro wz hz; go_simp) ?_
  try simp only [List.getElem_toArray, List.getElem_cons_succ, List.getElem_cons_zero, Act.put, List.setIfInBounds_toArray, List.set_cons_zero, List.set_cons_succ]
  refine wpAnyZ_take [] 6 (.int .i64 (E : Int)) rfl (by kernel_rfl) (fun _ _ _ h => h) SS rfl (by intro wz hz; go_simp) ?_
  try simp only [List.getElem_toArray, List.getElem_cons_succ, List.getElem_cons_zero, Act.put, List.setIfInBounds_toArray, List.set_cons_zero, List.set_cons_succ]
  refine wpAnyZ_take [] 7 (.int .i64 (E : Int)) rfl (by kernel_rfl) (fun _ _ _ h => h) SS rfl (by intro wz hz; go_simp) ?_
  try simp only [List.getElem_toArray, List.getElem_cons_succ, List.getElem_cons_zero, Act.put, List.setIfInBounds_toArray, List.set_cons_zero, List.set_cons_succ]
  refine wpAnyZ_take [] 8 (.bool false) rfl (by kernel_rfl) (fun _ _ _ h => h) SS rfl (by intro wz hz; go_simp) ?_
  try simp only [List.getElem_toArray, List.getElem_cons_succ, List.getElem_cons_zero, Act.put, List.setIfInBounds_toArray, List.set_cons_zero, List.set_cons_succ]
  refine wpAnyZ_take [] 9 (.bool false) rfl (by kernel_rfl) (fun _ _ _ h => h) SS rfl (by intro wz hz; go_simp) ?_
  try simp only [List.getElem_toArray, List.getElem_cons_succ, List.getElem_cons_zero, Act.put, List.setIfInBounds_toArray, List.set_cons_zero, List.set_cons_succ]
  refine wpAnyZ_take [] 10 (.bool false) rfl (by kernel_rfl) (fun _ _ _ h => h) SS rfl (by intro wz hz; go_simp) ?_
  try simp only [List.getElem_toArray, List.getElem_cons_succ, List.getElem_cons_zero, Act.put, List.setIfInBounds_toArray, List.set_cons_zero, List.set_cons_succ]
  refine wpAnyZ_take [] 11 (.int .i64 (E : Int)) rfl (by kernel_rfl) (fun _ _ _ h => h) SS rfl (by intro wz hz; go_simp) ?_
  try simp only [List.getElem_toArray, List.getElem_cons_succ, List.getElem_cons_zero, Act.put, List.setIfInBounds_toArray, List.set_cons_zero, List.set_cons_succ]
  refine wpAnyZ_take [] 12 (.int .i64 (E : Int)) rfl (by kernel_rfl) (fun _ _ _ h => h) SS rfl (by intro wz hz; go_simp) ?_
  try simp only [List.getElem_toArray, List.getElem_cons_succ, List.getElem_cons_zero, Act.put, List.setIfInBounds_toArray, List.set_cons_zero, List.set_cons_succ]
  refine wpAnyZ_take [] 13 (.bool false) rfl (by kernel_rfl) (fun _ _ _ h => h) SS rfl (by intro wz hz; go_simp) ?_
  try simp only [List.getElem_toArray, List.getElem_cons_succ, List.getElem_cons_zero, Act.put, List.setIfInBounds_toArray, List.set_cons_zero, List.set_cons_succ]
  refine wpAnyZ_take [] 14 (.bool false) rfl (by kernel_rfl) (fun _ _ _ h => h) SS rfl (by intro wz hz; go_simp) ?_
  try simp only [List.getElem_toArray, List.getElem_cons_succ, List.getElem_cons_zero, Act.put, List.setIfInBounds_toArray, List.set_cons_zero, List.set_cons_succ]
  refine wpAnyZ_take [] 15 (.bool false) rfl (by kernel_rfl) (fun _ _ _ h => h) SS rfl (by intro wz hz; go_simp) ?_
  try simp only [List.getElem_toArray, List.getElem_cons_succ, List.getElem_cons_zero, Act.put, List.setIfInBounds_toArray, List.set_cons_zero, List.set_cons_succ]
  refine wpAnyZ_take [] 16 (.agg #[.bool D.sf, .int .i64 D.wy, .slice A6.ab A6.nb A6.cb, .slice A6.ap A6.np A6.cp, .int .i64 D.qu, .slice A6.at' A6.nt A6.ct]) rfl (by kernel_rfl) (fun _ _ _ h => h) SS rfl (by intro wz hz; have cz := s6.keep hz (by simp); obtain ⟨z0, z1, z2, z3, z4, z5⟩ := BxS.cell6 cz; go_simp) ?_
  try simp only [List.getElem_toArray, List.getElem_cons_succ, List.getElem_cons_zero, Act.put, List.setIfInBounds_toArray, List.set_cons_zero, List.set_cons_succ]
  refine wpAnyZ_take [] 17 (.agg #[.bool D.sf, .int .i64 D.wy, .slice A4.ab A4.nb A4.cb, .slice A4.ap A4.np A4.cp, .int .i64 D.qu, .slice A4.at' A4.nt A4.ct]) rfl (by kernel_rfl) (fun _ _ _ h => h) SS rfl (by intro wz hz; have cz := s4.keep hz (by simp); obtain ⟨z0, z1, z2, z3, z4, z5⟩ := BxS.cell6 cz; go_simp) ?_
  try simp only [List.getElem_toArray, List.getElem_cons_succ, List.getElem_cons_zero, Act.put, List.setIfInBounds_toArray, List.set_cons_zero, List.set_cons_succ]
  refine wpAnyZ_oneB 18 rfl (by kernel_rfl) (fun K hK => ?_)
  go_simp
  go_at_call 11
  refine (kS A6 A4 _ (hO64.rd.keep SS) (hO44.rd.keep SS)).mono ?_
  rintro e wS ⟨rfl, gwS⟩
  dsimp only
  have SN := grown_trans SS gwS
  clear SS
  have SS := SN
  clear SN
  refine hK _ _ (fun _ => SS) ?_
  try simp only [List.getElem_toArray, List.getElem_cons_succ, List.getElem_cons_zero, Act.put, List.setIfInBounds_toArray, List.set_cons_zero, List.set_cons_succ]
  refine wpAnyZ_take [] 19 (.bool false) rfl (by kernel_rfl) (fun _ _ _ h => h) SS rfl (by intro wz hz; go_simp) ?_
  try simp only [List.getElem_toArray, List.getElem_cons_succ, List.getElem_cons_zero, Act.put, List.setIfInBounds_toArray, List.set_cons_zero, List.set_cons_succ]
  refine wpAnyZ_take [] 20 (.bool false) rfl (by kernel_rfl) (fun _ _ _ h => h) SS rfl (by intro wz hz; go_simp) ?_
  try simp only [List.getElem_toArray, List.getElem_cons_succ, List.getElem_cons_zero, Act.put, List.setIfInBounds_toArray, List.set_cons_zero, List.set_cons_succ]
  refine wpAnyZ_take [] 21 (.bool false) rfl (by kernel_rfl) (fun _ _ _ h => h) SS rfl (by intro wz hz; go_simp) ?_
  try simp only [List.getElem_toArray, List.getElem_cons_succ, List.getElem_cons_zero, Act.put, List.setIfInBounds_toArray, List.set_cons_zero, List.set_cons_succ]
  refine wpAnyZ_take [] 22 (.agg #[.slice q n c, .int .i64 si, .int .i64 mo, .int .i64 wi, .string sa]) rfl (by kernel_rfl) (fun _ _ _ h => h) SS rfl (by intro wz hz; have cz := s3.keep hz (by simp); obtain ⟨z0, z1, z2, z3, z4⟩ := BxS.cell5 cz; go_simp) ?_
  try simp only [List.getElem_toArray, List.getElem_cons_succ, List.getElem_cons_zero, Act.put, List.setIfInBounds_toArray, List.set_cons_zero, List.set_cons_succ]
  refine wpAnyZ_take [] 23 (.agg #[.slice ma n mc, .int .i64 si, .int .i64 mo, .int .i64 wi, .string sa]) rfl (by kernel_rfl) (fun _ _ _ h => h) SS rfl (by intro wz hz; have cz := s1.keep hz (by simp); obtain ⟨z0, z1, z2, z3, z4⟩ := BxS.cell5 cz; go_simp) ?_
  try simp only [List.getElem_toArray, List.getElem_cons_succ, List.getElem_cons_zero, Act.put, List.setIfInBounds_toArray, List.set_cons_zero, List.set_cons_succ]
  refine wpAnyZ_oneB 24 rfl (by kernel_rfl) (fun K hK => ?_)
  go_simp
  go_at_call 12
  refine (sameGuard_any q ma n c mc si mo wi sa F _ (hQ4.keep SS) (hM4.keep SS)).mono ?_
  rintro e wG ⟨rfl, gwG⟩
  dsimp only
  have SN := grown_trans SS gwG
  clear SS
  have SS := SN
  clear SN
  refine hK _ _ (fun _ => SS) ?_
  try simp only [List.getElem_toArray, List.getElem_cons_succ, List.getElem_cons_zero, Act.put, List.setIfInBounds_toArray, List.set_cons_zero, List.set_cons_succ]
  refine wpAnyZ_take [] 25 (.bool false) rfl (by kernel_rfl) (fun _ _ _ h => h) SS rfl (by intro wz hz; go_simp) ?_
  try simp only [List.getElem_toArray, List.getElem_cons_succ, List.getElem_cons_zero, Act.put, List.setIfInBounds_toArray, List.set_cons_zero, List.set_cons_succ]
  refine wpAnyZ_take [] 26 (.bool false) rfl (by kernel_rfl) (fun _ _ _ h => h) SS rfl (by intro wz hz; go_simp) ?_
  try simp only [List.getElem_toArray, List.getElem_cons_succ, List.getElem_cons_zero, Act.put, List.setIfInBounds_toArray, List.set_cons_zero, List.set_cons_succ]
  refine wpAnyZ_doneB (by kernel_rfl) ?_ _
  have hW := kW A6 _ _ (hO64.keep SS) (by omega) (by omega)
  obtain ⟨z0, z1, z2, z3, z4, z5⟩ := (s6.keep SS (by simp)).cell6
  have tt : True := trivial
  go_wp2_with (first
    | (go_at_call 13; refine hW.mono ?_; rintro e w5 ⟨rfl, f5⟩; clear z0 z1 z2 z3 z4 z5; obtain ⟨z0, z1, z2, z3, z4, z5⟩ := ((s8.keep SS (by simp)).fz f5 (fun h => by have := u6 _ h; omega)).cell6; obtain ⟨y0, y1, y2, y3, y4, y5⟩ := ((s4.keep SS (by simp)).fz f5 (fun h => by have := u6 _ h; omega)).cell6; have k5 := kS A8 A4 _ ((hO84.keep SS).fz f5 (fun i hi h => by have := u6 _ h; have := u8 _ hi; omega)).rd ((hO44.keep SS).fz f5 (fun i hi h => by have := u6 _ h; have := u4 _ hi; omega)).rd)
    | (go_at_call 11; refine k5.mono ?_; rintro e w6 ⟨rfl, g6⟩))
  go_ret
  refine ⟨rfl, below_of_grown (grown_trans (Fz.grown (grown_trans GT SS) f5 (fun i hi => ?_)) g6)⟩
  have := u6 _ hi
  omega
end Go.Proofs.Ytficcibflecchaa
